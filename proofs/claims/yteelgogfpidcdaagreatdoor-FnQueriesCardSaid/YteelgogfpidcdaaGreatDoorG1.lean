/-
  Texts of the proof, merged: Bytes, Ints, LawInts, RowVal, SetMath, SetSpec, RowSpec, RowLaw1, AppInts, RowSl, RowOwn, RowLaws, RowEq, Take, RowAre, RowLess, RowCopy, RowMark, RowMarkW, RowIns, RowInsM, RowSort.
-/
import Derived.Test.YteelgogfpidcdaaGreatDoorRows
import Derived.Laws.BytesArg
import Derived.Laws.IdiomStrings
import Derived.Laws.Concat
import Derived.WalkKit
import Derived.Below
import Derived.Lib.Hide
import Derived.OwnWalk
import Derived.BigQuiet
import Derived.Deep.QuietTactic
import Derived.WalkSpells
import Derived.Deep.RegionHeld3
import Derived.IntWalk
import Derived.Deep.Upon
import Derived.Maps.AppendAt
namespace Go.Proofs.YteelgogfpidcdaaGreatDoor
open Go.RowKit
theorem Tryz.infoU8 : (Tryz.prog.info? 5).map (fun i => (i.zero, i.size, i.bytes)) = some (some (.int .u8 0), 1, 1) := by kernel_rfl
theorem ret_strI {xs ys : List Int} (h : xs = ys) : Ending.returned (.string (strOfNums xs)) = .returned (.string (strOfNums ys)) := by rw [h]
/-- The slice v owns the bytes xs. -/
def OwnsB (w : World) (B : Nat) (v : Value) (xs : List Int) : Prop := w.ownsRow B 5 1 v xs.length (xs.map (Value.int .u8))
theorem ownsB_nil (w : World) (B : Nat) : OwnsB w B (.slice none 0 0) [] := World.ownsRow_nil w B _ _
theorem ownsB_lit (w : World) (B : Nat) (hb : B ≤ w.heap.size) (C : Array Value) (n : Nat) (xs : List Int) (hC : C.toList = xs.map (Value.int .u8)) (hn : n = xs.length) (hm : n ≤ maxLen) :
    OwnsB (w.alloc (.cells C 5)) B (.slice (some ⟨w.heap.size, 0, none⟩) n n) xs := by
  subst hn
  have := World.ownsRow_lit (e := 5) (size := 1) w C xs.length hb hm (by have := congrArg List.length hC; simpa using this)
  rw [hC] at this
  exact this
theorem cell_alloc_cells (w : World) (C : Array Value) (t : TypeId) (j : Nat) : (w.alloc (.cells C t)).cell? ⟨w.heap.size, j, none⟩ = C[j]? :=
  World.cell?_alloc_mark w C t (0, 0) j
/-- 'append(out, b..)' where the bytes lie in a block that was just laid. -/
theorem append_bytes {w : World} {ops : Array Oper} {rest : List Oper} {o : Oper} {a : Act} {Q : Exit → Act → World → Prop} (hgd : o.guard = none) (s x : Operand)
    (ho : o.op = .call { callee := .builtin .append, args := #[s, x], argTypes := #[22, 22] })
    (B : Nat) (v : Value) (xs : List Int) (hs : a.eval s = v) (hown : OwnsB w B v xs) (hB : B ≤ w.heap.size)
    (C : Array Value) (ys : List Int) (m c : Nat) (hx : a.eval x = .slice (some ⟨w.heap.size, 0, none⟩) m c) (hC : C.toList = ys.map (Value.int .u8)) (hm : m = ys.length)
    (h63 : xs.length + ys.length ≤ 140737488355328)
    (h : ∀ v' w', OwnsB w' B v' (xs ++ ys) → Below B w w' → wpList Tryz.prog ops Q rest (a.put o.dst v') w') : wpList Tryz.prog ops Q (o :: rest) a (w.alloc (.cells C 5)) := by
  obtain ⟨i0, hi, hz0, hz1, hz2⟩ := info_parts Tryz.infoU8
  subst hm
  refine wpList_append_own _ hgd s x 22 ho B 5 i0 (.int .u8 0) 1 1 Tryz.underlying22 hi hz0 hz1 hz2 rfl (by decide) v xs.length _ hs (hown.alloc _) ⟨w.heap.size, 0, none⟩ ys.length c (ys.map (Value.int .u8)) hx (by simp) ?_ (by intro u hu; simp at hu; obtain ⟨y, _, rfl⟩ := hu; rfl) (by unfold maxLen; omega) (by omega) (by simp; omega) ?_
  · intro j u hj
    have e : (⟨w.heap.size, 0, none⟩ : Addr).add j = ⟨w.heap.size, j, none⟩ := by unfold Addr.add; split <;> simp_all
    rw [e, cell_alloc_cells]
    rw [← hC] at hj
    simpa using hj
  · intro v' w' h1 h2 _
    refine h v' w' ?_ ?_
    · unfold OwnsB
      simpa using h1
    · exact ((Below.refl B w).alloc hB _).grown h2 (by simp; omega) (fun k hk => (hown.lt k hk).1)
/-- The same as a step of a region that draws its order. -/
theorem step_append_bytes {w : World} {ops : Array Oper} {o : Oper} {a : Act} {K : Act → World → Prop} {Q : Exit → Act → World → Prop} {E : Prop} (hgd : o.guard = none) (s x : Operand)
    (ho : o.op = .call { callee := .builtin .append, args := #[s, x], argTypes := #[22, 22] })
    (B : Nat) (v : Value) (xs : List Int) (hs : a.eval s = v) (hown : OwnsB w B v xs) (hB : B ≤ w.heap.size)
    (C : Array Value) (ys : List Int) (m c : Nat) (hx : a.eval x = .slice (some ⟨w.heap.size, 0, none⟩) m c) (hC : C.toList = ys.map (Value.int .u8)) (hm : m = ys.length)
    (h63 : xs.length + ys.length ≤ 140737488355328)
    (h : ∀ v' w', OwnsB w' B v' (xs ++ ys) → Below B w w' → K (a.put o.dst v') w') : if Region.wanted o (yielded ops a.tmps) = true then Oper.wp Tryz.prog o a (w.alloc (.cells C 5)).drew K Q else E := by
  have hw : Region.wanted o (yielded ops a.tmps) = true := by simp [Region.wanted, hgd]
  rw [if_pos hw]
  obtain ⟨i0, hi, hz0, hz1, hz2⟩ := info_parts Tryz.infoU8
  subst hm
  refine wp_append_own _ s x 22 ho B 5 i0 (.int .u8 0) 1 1 Tryz.underlying22 hi hz0 hz1 hz2 rfl (by decide) v xs.length _ hs ((hown.alloc _).drew) ⟨w.heap.size, 0, none⟩ ys.length c (ys.map (Value.int .u8)) hx (by simp) ?_ (by intro u hu; simp at hu; obtain ⟨y, _, rfl⟩ := hu; rfl) (by unfold maxLen; omega) (by omega) (by show B ≤ (w.alloc _).heap.size; simp; omega) ?_
  · intro j u hj
    have e : (⟨w.heap.size, 0, none⟩ : Addr).add j = ⟨w.heap.size, j, none⟩ := by unfold Addr.add; split <;> simp_all
    rw [e]
    show (w.alloc (.cells C 5)).cell? ⟨w.heap.size, j, none⟩ = some u
    rw [cell_alloc_cells]
    rw [← hC] at hj
    simpa using hj
  · intro v' w' h1 h2 _
    refine h v' w' ?_ ?_
    · unfold OwnsB
      simpa using h1
    · exact (((Below.refl B w).alloc hB _).drew).grown h2 (by show B ≤ (w.alloc _).heap.size; simp; omega) (fun k hk => (hown.lt k hk).1)
/-- 'string(out)'. -/
theorem string_owned {w : World} {B : Nat} {v : Value} {xs : List Int} (hown : OwnsB w B v xs) : (convert 22 9 v).run Tryz.prog w = .ok (.string (strOfNums xs)) w := by
  rcases hown.2 with ⟨rfl, h0⟩ | ⟨g, cap, cur, rfl, hb, hg, _⟩
  · have : xs = [] := List.eq_nil_of_length_eq_zero h0
    subst this
    rw [run_convert_bytes_nil w 22 5 Tryz.underlying22 Tryz.underlying5 0 0 9 Tryz.underlying9]
    rfl
  · refine run_convert_bytes_arg w 22 5 Tryz.underlying22 Tryz.underlying5 g 0 xs.length cap xs rfl ?_ 9 Tryz.underlying9
    intro i hi
    have := World.ownsRow.cells hown (g := g) rfl i (.int .u8 (xs.getD i 0)) (by simp [List.getElem?_eq_getElem hi])
    have e : (⟨g, 0, none⟩ : Addr).add i = ⟨g, 0 + i, none⟩ := by unfold Addr.add; split <;> simp_all
    rwa [e] at this
theorem ownsB_below {w w' : World} {B : Nat} {v : Value} {xs : List Int} (h : OwnsB w B v xs) (hb : ∀ k, k < w.heap.size → w'.heap[k]? = w.heap[k]?) : OwnsB w' B v xs := by
  refine ⟨h.1, ?_⟩
  rcases h.2 with hn | ⟨g, cap, cur, rfl, hb', hg, rest⟩
  · exact .inl hn
  · refine .inr ⟨g, cap, cur, rfl, hb', ?_, rest⟩
    rw [hb g (Array.getElem?_eq_some_iff.1 hg).1]
    exact hg
/-- 'string([]byte{x})'. -/
theorem string_lit1 (w : World) (x : Int) : (convert 22 9 (.slice (some ⟨w.heap.size, 0, none⟩) 1 1)).run Tryz.prog (w.alloc (.cells #[.int .u8 x] 5)) = .ok (.string (strOfNums [x])) (w.alloc (.cells #[.int .u8 x] 5)) :=
  string_owned (B := 0) (ownsB_lit w 0 (Nat.zero_le _) #[.int .u8 x] 1 [x] rfl rfl (by decide))
theorem strOfNums_append (xs ys : List Int) : strOfNums xs ++ strOfNums ys = strOfNums (xs ++ ys) := by
  apply ByteArray.ext
  simp [strOfNums]
theorem concat_cons (x : Int) (ys : List Int) (h : ys.length ≤ 1048576) (w : World) : (Op.stringOp .add (strOfNums [x]) (strOfNums ys)).run Tryz.prog w = .ok (.string (strOfNums (x :: ys))) w := by
  rw [run_string_add_sum w _ _ (by rw [strOfNums_size, strOfNums_size]; simp; omega), strOfNums_append]
  rfl
theorem strOfNums_nil : strOfNums [] = ⟨#[]⟩ := rfl
/-- What 'make([]byte, n)' owns. -/
theorem ownsB_made {w : World} {B g n : Nat} (h : w.ownsRow B 5 1 (.slice (some ⟨g, 0, none⟩) n n) n (madeCells #[Value.int .u8 0] n).toList) : OwnsB w B (.slice (some ⟨g, 0, none⟩) n n) (List.replicate n 0) := by
  have e : (madeCells #[Value.int .u8 0] n).toList = List.replicate n (.int .u8 0) := toList_madeCells_one (.int .u8 0) n
  rw [e] at h
  unfold OwnsB
  simpa using h
theorem ownsB_cell {w : World} {B g n cap j : Nat} {xs : List Int} {x : Int} (h : OwnsB w B (.slice (some ⟨g, 0, none⟩) n cap) xs) (hx : xs[j]? = some x) : w.cell? ⟨g, j, none⟩ = some (.int .u8 x) := by
  have := World.ownsRow.cells h (g := g) rfl j (.int .u8 x) (by simp [hx])
  have e : (⟨g, 0, none⟩ : Addr).add j = ⟨g, j, none⟩ := by unfold Addr.add; split <;> simp_all
  rwa [e] at this
theorem ownsB_len {w : World} {B g n cap : Nat} {xs : List Int} (h : OwnsB w B (.slice (some ⟨g, 0, none⟩) n cap) xs) : n = xs.length := by
  rcases h.2 with ⟨h', _⟩ | ⟨_, _, _, h', _⟩
  · simp at h'
  · simp only [Value.slice.injEq] at h'; exact h'.2.1
theorem ownsB_frozen {w : World} {B g n cap : Nat} {xs : List Int} (h : OwnsB w B (.slice (some ⟨g, 0, none⟩) n cap) xs) (j : Nat) : w.frozen? ⟨g, j, none⟩ = false := by
  obtain rfl := ownsB_len h
  exact World.ownsRow.frozenAt h j
theorem ownsB_store {w : World} {B g n cap : Nat} {xs : List Int} (h : OwnsB w B (.slice (some ⟨g, 0, none⟩) n cap) xs) (j : Nat) (x : Int) : OwnsB (w.setCell ⟨g, j, none⟩ (.int .u8 x)) B (.slice (some ⟨g, 0, none⟩) n cap) (xs.set j x) := by
  obtain rfl := ownsB_len h
  have := (World.ownsRow.stored h j (.int .u8 x)).1
  unfold OwnsB
  rw [List.length_set, List.map_set]
  exact this
theorem ownsB_ge {w : World} {B g n cap : Nat} {xs : List Int} (h : OwnsB w B (.slice (some ⟨g, 0, none⟩) n cap) xs) : B ≤ g ∧ g < w.heap.size := h.lt g rfl
end Go.Proofs.YteelgogfpidcdaaGreatDoor
namespace Go.Proofs.YteelgogfpidcdaaGreatDoor
open Go.RowKit
set_option linter.unusedVariables false
theorem Tryz.infoI64 : (Tryz.prog.info? 3).map (fun i => (i.zero, i.size, i.bytes)) = some (some (.int .i64 0), 1, 8) := by kernel_rfl
/-- The slice v reads as the numbers xs. -/
def Ints (w : World) (v : Value) (xs : List Int) : Prop :=
  (xs = [] ∧ ∃ a cap, v = .slice a 0 cap) ∨ ∃ b off cap, v = .slice (some ⟨b, off, none⟩) xs.length cap ∧ xs.length ≤ cap ∧ b < w.heap.size ∧ ∀ j, j < xs.length → w.cell? ⟨b, off + j, none⟩ = some (.int .i64 (xs.getD j 0))
/-- The slice v owns the numbers xs, in a block from B on. -/
def OwnsN (w : World) (B : Nat) (v : Value) (xs : List Int) : Prop := w.ownsRow B 3 1 v xs.length (xs.map (Value.int .i64))
theorem below_same {B : Nat} {a w w' : World} (h : Below B a w) (h1 : w'.heap = w.heap) (h2 : w'.os = w.os) (h3 : w'.tape = w.tape) (h4 : w'.output = w.output) : Below B a w' :=
  ⟨h2.trans h.os, h3.trans h.tape, h4.trans h.output, by rw [h1]; exact h.size, fun k hk => by rw [h1]; exact h.block k hk⟩
theorem ints_len {w : World} {v : Value} {xs : List Int} (h : Ints w v xs) : ∃ a cap, v = .slice a xs.length cap := by
  rcases h with ⟨rfl, a, cap, rfl⟩ | ⟨b, off, cap, rfl, _⟩
  · exact ⟨a, cap, rfl⟩
  · exact ⟨_, cap, rfl⟩
theorem ints_below {W w : World} {v : Value} {xs : List Int} (h : Ints W v xs) (hb : Below W.heap.size W w) : Ints w v xs := by
  rcases h with h | ⟨b, off, cap, h1, h2, h3, h4⟩
  · exact Or.inl h
  · exact Or.inr ⟨b, off, cap, h1, h2, Nat.lt_of_lt_of_le h3 hb.size, fun j hj => (hb.cell (p := ⟨b, off + j, none⟩) h3).trans (h4 j hj)⟩
theorem ownsN_nil (w : World) (B : Nat) : OwnsN w B (.slice none 0 0) [] := World.ownsRow_nil w B _ _
theorem ownsN_lit (w : World) (B : Nat) (hb : B ≤ w.heap.size) (C : Array Value) (n : Nat) (xs : List Int) (hC : C.toList = xs.map (Value.int .i64)) (hn : n = xs.length) (hm : n ≤ maxLen) :
    OwnsN (w.alloc (.cells C 3)) B (.slice (some ⟨w.heap.size, 0, none⟩) n n) xs := by
  subst hn
  have := World.ownsRow_lit (e := 3) (size := 1) w C xs.length hb hm (by have := congrArg List.length hC; simpa using this)
  rw [hC] at this
  exact this
theorem cell_lit (w : World) (C : Array Value) (t : TypeId) (j : Nat) : (w.alloc (.cells C t)).cell? ⟨w.heap.size, j, none⟩ = C[j]? := by
  rw [cell_of_row _ w.heap.size j C t (0, 0) (heap_alloc_new w _)]
/-- 'append(out, x..)' where the numbers lie in a block that was just laid. -/
theorem append_ints {w : World} {ops : Array Oper} {rest : List Oper} {o : Oper} {a : Act} {Q : Exit → Act → World → Prop} (hgd : o.guard = none) (s x : Operand)
    (ho : o.op = .call { callee := .builtin .append, args := #[s, x], argTypes := #[25, 25] })
    (B : Nat) (v : Value) (xs : List Int) (hs : a.eval s = v) (hown : OwnsN w B v xs) (hB : B ≤ w.heap.size)
    (C : Array Value) (ys : List Int) (m c : Nat) (hx : a.eval x = .slice (some ⟨w.heap.size, 0, none⟩) m c) (hC : C.toList = ys.map (Value.int .i64)) (hm : m = ys.length)
    (h63 : xs.length + ys.length ≤ 17592186044416)
    (h : ∀ v' w', OwnsN w' B v' (xs ++ ys) → Below B w w' → wpList Tryz.prog ops Q rest (a.put o.dst v') w') : wpList Tryz.prog ops Q (o :: rest) a (w.alloc (.cells C 3)) := by
  obtain ⟨i0, hi, hz0, hz1, hz2⟩ := info_parts Tryz.infoI64
  subst hm
  refine wpList_append_own _ hgd s x 25 ho B 3 i0 (.int .i64 0) 1 8 Tryz.underlying25 hi hz0 hz1 hz2 rfl (by decide) v xs.length _ hs (hown.alloc _) ⟨w.heap.size, 0, none⟩ ys.length c (ys.map (Value.int .i64)) hx (by simp) ?_ (by intro u hu; simp at hu; obtain ⟨y, _, rfl⟩ := hu; rfl) (by unfold maxLen; omega) (by omega) (by simp; omega) ?_
  · intro j u hj
    have e : (⟨w.heap.size, 0, none⟩ : Addr).add j = ⟨w.heap.size, j, none⟩ := by unfold Addr.add; split <;> simp_all
    rw [e, cell_lit]
    rw [← hC] at hj
    simpa using hj
  · intro v' w' h1 h2 _
    refine h v' w' ?_ ?_
    · unfold OwnsN
      simpa using h1
    · exact ((Below.refl B w).alloc hB _).grown h2 (by simp; omega) (fun k hk => (hown.lt k hk).1)
/-- What is owned reads so. -/
theorem ownsN_ints {w : World} {B : Nat} {v : Value} {xs : List Int} (h : OwnsN w B v xs) : Ints w v xs := by
  rcases h.2 with ⟨rfl, h0⟩ | ⟨g, cap, cur, rfl, hb, hg, hn, hm, hcs, htake⟩
  · have : xs = [] := List.eq_nil_of_length_eq_zero h0
    subst this
    exact Or.inl ⟨rfl, none, 0, rfl⟩
  · refine Or.inr ⟨g, 0, cap, rfl, hn, (Array.getElem?_eq_some_iff.1 hg).1, ?_⟩
    intro j hj
    have := World.ownsRow.cells h (g := g) rfl j (.int .i64 (xs.getD j 0)) (by simp [List.getElem?_eq_getElem hj])
    have e : (⟨g, 0, none⟩ : Addr).add j = ⟨g, 0 + j, none⟩ := by unfold Addr.add; split <;> simp_all
    rwa [e] at this
/-- What 'make([]int, n)' owns. -/
theorem ownsN_made {w : World} {B g n : Nat} (h : w.ownsRow B 3 1 (.slice (some ⟨g, 0, none⟩) n n) n (madeCells #[Value.int .i64 0] n).toList) : OwnsN w B (.slice (some ⟨g, 0, none⟩) n n) (List.replicate n 0) := by
  have e : (madeCells #[Value.int .i64 0] n).toList = List.replicate n (.int .i64 0) := toList_madeCells_one (.int .i64 0) n
  rw [e] at h
  unfold OwnsN
  simpa using h
theorem ownsN_len {w : World} {B : Nat} {a : Option Addr} {n cap : Nat} {xs : List Int} (h : OwnsN w B (.slice a n cap) xs) : n = xs.length := by
  rcases h.2 with ⟨h', h0⟩ | ⟨_, _, _, h', _⟩
  · simp only [Value.slice.injEq] at h'; omega
  · simp only [Value.slice.injEq] at h'; exact h'.2.1
theorem ownsN_cell {w : World} {B g n cap j : Nat} {xs : List Int} {x : Int} (h : OwnsN w B (.slice (some ⟨g, 0, none⟩) n cap) xs) (hx : xs[j]? = some x) : w.cell? ⟨g, j, none⟩ = some (.int .i64 x) := by
  have := World.ownsRow.cells h (g := g) rfl j (.int .i64 x) (by simp [hx])
  have e : (⟨g, 0, none⟩ : Addr).add j = ⟨g, j, none⟩ := by unfold Addr.add; split <;> simp_all
  rwa [e] at this
theorem ownsN_frozen {w : World} {B g n cap : Nat} {xs : List Int} (h : OwnsN w B (.slice (some ⟨g, 0, none⟩) n cap) xs) (j : Nat) : w.frozen? ⟨g, j, none⟩ = false := by
  obtain rfl := ownsN_len h
  exact World.ownsRow.frozenAt h j
theorem ownsN_store {w : World} {B g n cap : Nat} {xs : List Int} (h : OwnsN w B (.slice (some ⟨g, 0, none⟩) n cap) xs) (j : Nat) (x : Int) : OwnsN (w.setCell ⟨g, j, none⟩ (.int .i64 x)) B (.slice (some ⟨g, 0, none⟩) n cap) (xs.set j x) := by
  obtain rfl := ownsN_len h
  have := (World.ownsRow.stored h j (.int .i64 x)).1
  unfold OwnsN
  rw [List.length_set, List.map_set]
  exact this
theorem ownsN_ge {w : World} {B g n cap : Nat} {xs : List Int} (h : OwnsN w B (.slice (some ⟨g, 0, none⟩) n cap) xs) : B ≤ g ∧ g < w.heap.size := h.lt g rfl
/-- What is owned stays owned while only blocks beyond it, or none of its own, are written. -/
theorem ownsN_below {w w' : World} {B : Nat} {v : Value} {xs : List Int} (h : OwnsN w B v xs) (hb : Below w.heap.size w w') : OwnsN w' B v xs := by
  refine ⟨h.1, ?_⟩
  rcases h.2 with hn | ⟨g, cap, cur, rfl, hb', hg, rest⟩
  · exact .inl hn
  · refine .inr ⟨g, cap, cur, rfl, hb', ?_, rest⟩
    rw [hb.block g (Array.getElem?_eq_some_iff.1 hg).1]
    exact hg
/-- The form of what is owned: nil, or the head of a block. -/
theorem ownsN_form {w : World} {B : Nat} {v : Value} {xs : List Int} (h : OwnsN w B v xs) : (v = .slice none 0 0 ∧ xs = []) ∨ ∃ g cap, v = .slice (some ⟨g, 0, none⟩) xs.length cap ∧ B ≤ g ∧ g < w.heap.size := by
  rcases h.2 with ⟨rfl, h0⟩ | ⟨g, cap, cur, rfl, hb, hg, _⟩
  · exact .inl ⟨rfl, List.eq_nil_of_length_eq_zero h0⟩
  · exact .inr ⟨g, cap, rfl, hb, (Array.getElem?_eq_some_iff.1 hg).1⟩
end Go.Proofs.YteelgogfpidcdaaGreatDoor
namespace Go.Proofs.YteelgogfpidcdaaGreatDoor
open Go.RowKit
set_option linter.unusedVariables false
/-- A slice in new memory that holds the numbers xs. -/
def Fresh (w : World) (xs : List Int) (e : Ending) (w' : World) : Prop := ∃ v', e = .returned v' ∧ OwnsN w' w.heap.size v' xs ∧ Below w.heap.size w w'
theorem ints_cell {w : World} {v : Value} {xs : List Int} (h : Ints w v xs) (hp : 0 < xs.length) : ∃ b off cap, v = .slice (some ⟨b, off, none⟩) xs.length cap ∧ b < w.heap.size ∧ ∀ j, j < xs.length → w.cell? ⟨b, off + j, none⟩ = some (.int .i64 (xs.getD j 0)) := by
  rcases h with ⟨rfl, _⟩ | ⟨b, off, cap, h1, h2, h3, h4⟩
  · simp at hp
  · exact ⟨b, off, cap, h1, h3, h4⟩
theorem copy_step (xs : List Int) (k : Nat) (h : k < xs.length) : (xs.take k ++ List.replicate (xs.length - k) 0).set k (xs.getD k 0) = xs.take (k + 1) ++ List.replicate (xs.length - (k + 1)) 0 := by
  have hk : (xs.take k).length = k := by rw [List.length_take]; omega
  rw [List.set_append_right _ _ (by omega), hk, Nat.sub_self, show xs.length - k = (xs.length - (k + 1)) + 1 by omega, List.replicate_succ, List.set_cons_zero, List.take_succ_eq_append_getElem h, List.append_assoc]
  simp [List.getD, h]
theorem copy_at (xs : List Int) (k : Nat) (h : k < xs.length) : (xs.take k ++ List.replicate (xs.length - k) 0)[k]? = some 0 := by
  have hk : (xs.take k).length = k := by rw [List.length_take]; omega
  rw [List.getElem?_append_right (by omega), hk, Nat.sub_self, List.getElem?_replicate, if_pos (by omega)]
/-- The numbers k, k + 1, ... -/
def marks (k : Int) (n : Nat) : List Int := (List.range n).map fun i : Nat => k + (i : Int)
theorem marks_length (k : Int) (n : Nat) : (marks k n).length = n := by simp [marks]
theorem marks_at (k : Int) (n j : Nat) (h : j < n) : (marks k n).getD j 0 = k + (j : Int) := by simp [marks, List.getD, h]
/-- The first j numbers marked. -/
def markedTo (xs : List Int) (k : Int) (j : Nat) : List Int := marks k j ++ xs.drop j
theorem markedTo_step (xs : List Int) (k : Int) (j : Nat) (h : j < xs.length) : (markedTo xs k j).set j (k + (j : Int)) = markedTo xs k (j + 1) := by
  unfold markedTo
  rw [List.set_append_right _ _ (by rw [marks_length]; exact Nat.le_refl _), marks_length, Nat.sub_self, List.drop_eq_getElem_cons h, List.set_cons_zero]
  simp [marks, List.range_succ]
theorem markedTo_at (xs : List Int) (k : Int) (j : Nat) (h : j < xs.length) : (markedTo xs k j)[j]? = some xs[j] := by
  unfold markedTo
  rw [List.getElem?_append_right (by rw [marks_length]; exact Nat.le_refl _), marks_length, Nat.sub_self, List.drop_eq_getElem_cons h]
  rfl
theorem markedTo_length (xs : List Int) (k : Int) (j : Nat) (h : j ≤ xs.length) : (markedTo xs k j).length = xs.length := by
  unfold markedTo; rw [List.length_append, marks_length, List.length_drop]; omega
theorem markedTo_all (xs : List Int) (k : Int) : markedTo xs k xs.length = marks k xs.length := by unfold markedTo; simp
/-- What marking leaves. -/
def Marked (w : World) (B : Nat) (v : Value) (n : Nat) (k : Int) (e : Ending) (w' : World) : Prop := e = .returned (.int .i64 (k + (n : Int))) ∧ OwnsN w' B v (marks k n) ∧ w.grownBy w' v.ownBlock
theorem grownBy_store (w : World) (g j : Nat) (u : Value) : w.grownBy (w.setCell ⟨g, j, none⟩ u) (some g) :=
  ⟨rfl, rfl, rfl, by simp [World.setCell], fun k _ hk => heap_setCell_other w ⟨g, j, none⟩ k u (fun e => hk (by simp [e]))⟩
theorem grown_more {a b c : World} {r : Option Nat} (h : a.grownBy b r) (k : b.grownBy c r) : a.grownBy c r :=
  ⟨k.os.trans h.os, k.tape.trans h.tape, k.output.trans h.output, Nat.le_trans h.size k.size, fun i hi hne => (k.block i (Nat.lt_of_lt_of_le hi h.size) hne).trans (h.block i hi hne)⟩
end Go.Proofs.YteelgogfpidcdaaGreatDoor
namespace Go.Proofs.YteelgogfpidcdaaGreatDoor
open Go.RowKit
set_option linter.unusedVariables false
/-- A row: its number and its values. -/
abbrev RowD := Int × List Int
/-- The value of a row whose values lie in vv. -/
def rowVal (r : RowD) (vv : Value) : Value := .agg #[.int .i64 r.1, vv]
/-- The value v reads as the row r. -/
def RowV (w : World) (v : Value) (r : RowD) : Prop := ∃ vv, v = .agg #[.int .i64 r.1, vv] ∧ Ints w vv r.2
theorem rowV_below {W w : World} {v : Value} {r : RowD} (h : RowV W v r) (hb : Below W.heap.size W w) : RowV w v r := by
  obtain ⟨vv, e, hi⟩ := h
  exact ⟨vv, e, ints_below hi hb⟩
/-- A row in new memory is answered. -/
def FreshRow (w : World) (r : RowD) (e : Ending) (w' : World) : Prop := ∃ vv, e = .returned (.agg #[.int .i64 r.1, vv]) ∧ OwnsN w' w.heap.size vv r.2 ∧ Below w.heap.size w w'
theorem grow_set (w : World) (c j : Nat) (u : Value) : w.grownBy (w.setCell ⟨c, j, none⟩ u) (some c) :=
  ⟨rfl, rfl, rfl, by simp [World.setCell], fun k _ hk => heap_setCell_other w ⟨c, j, none⟩ k u (fun e => hk (by simp [e]))⟩
/-- A store into a block below what is owned. -/
theorem ownsN_low {w : World} {C : Nat} {v : Value} {xs : List Int} (h : OwnsN w C v xs) {b : Nat} (hb : b < C) (j : Nat) (u : Value) : OwnsN (w.setCell ⟨b, j, none⟩ u) C v xs := by
  refine h.kept (grow_set w b j u) ?_
  cases hv : v.ownBlock with
  | none => exact Or.inl rfl
  | some k => exact Or.inr (by intro e; have := (h.lt k hv).1; simp at e; omega)
theorem ownsN_up {w : World} {B C : Nat} {v : Value} {xs : List Int} (h : OwnsN w C v xs) (hb : B ≤ C) : OwnsN w B v xs := by
  refine ⟨h.1, ?_⟩
  rcases h.2 with hn | ⟨g, cap, cur, e, hb', rest⟩
  · exact .inl hn
  · exact .inr ⟨g, cap, cur, e, Nat.le_trans hb hb', rest⟩
end Go.Proofs.YteelgogfpidcdaaGreatDoor
namespace Go.Proofs.YteelgogfpidcdaaGreatDoor
/-- Is the list a set? -/
def SetL (l : List Int) : Prop := (∀ i, i < l.length → 0 ≤ l.getD i 0 ∧ l.getD i 0 ≤ 23) ∧ ∀ i, i + 1 < l.length → l.getD i 0 < l.getD (i + 1) 0
/-- The same as a test. -/
def setB (l : List Int) : Bool := (List.range l.length).all fun i => decide (0 ≤ l.getD i 0) && decide (l.getD i 0 ≤ 23) && (decide (i = 0) || decide (l.getD (i - 1) 0 < l.getD i 0))
theorem setB_iff (l : List Int) : setB l = true ↔ SetL l := by
  unfold setB SetL
  rw [List.all_eq_true]
  simp only [List.mem_range, Bool.and_eq_true, Bool.or_eq_true, decide_eq_true_eq]
  constructor
  · intro h
    refine ⟨fun i hi => (h i hi).1, fun i hi => ?_⟩
    rcases (h (i + 1) hi).2 with h1 | h1
    · omega
    · simpa using h1
  · rintro ⟨h1, h2⟩ i hi
    refine ⟨h1 i hi, ?_⟩
    by_cases e : i = 0
    · exact Or.inl e
    · right
      have := h2 (i - 1) (by omega)
      rwa [show i - 1 + 1 = i by omega] at this
theorem setB_no {l : List Int} (h : ¬ SetL l) : setB l = false := by
  cases e : setB l with
  | false => rfl
  | true => exact absurd ((setB_iff l).1 e) h
/-- As far as k the list is a set. -/
def SetTo (l : List Int) (k : Nat) : Prop := (∀ i, i < k → 0 ≤ l.getD i 0 ∧ l.getD i 0 ≤ 23) ∧ ∀ i, i + 1 < k → l.getD i 0 < l.getD (i + 1) 0
theorem setTo_all (l : List Int) : SetTo l l.length ↔ SetL l := Iff.rfl
theorem setTo_step {l : List Int} {k : Nat} (h : SetTo l k) (h0 : 0 ≤ l.getD k 0) (h1 : l.getD k 0 ≤ 23) (h2 : 0 < k → l.getD (k - 1) 0 < l.getD k 0) : SetTo l (k + 1) := by
  refine ⟨fun i hi => ?_, fun i hi => ?_⟩
  · by_cases e : i = k
    · subst e; exact ⟨h0, h1⟩
    · exact h.1 i (by omega)
  · by_cases e : i + 1 = k
    · subst e; have := h2 (by omega); simpa using this
    · exact h.2 i (by omega)
theorem not_set_range {l : List Int} {k : Nat} (hk : k < l.length) (h : ¬ (0 ≤ l.getD k 0 ∧ l.getD k 0 ≤ 23)) : ¬ SetL l := fun g => h (g.1 k hk)
theorem not_set_order {l : List Int} {k : Nat} (hk : k < l.length) (h0 : 0 < k) (h : ¬ l.getD (k - 1) 0 < l.getD k 0) : ¬ SetL l := fun g => by
  have := g.2 (k - 1) (by omega)
  rw [show k - 1 + 1 = k by omega] at this
  exact h this
theorem member_iff (l : List Int) (x : Int) : x ∈ l ↔ ∃ i, i < l.length ∧ l.getD i 0 = x := by
  constructor
  · intro h
    obtain ⟨i, hi, e⟩ := List.getElem_of_mem h
    exact ⟨i, hi, by simp [List.getD, hi, e]⟩
  · rintro ⟨i, hi, e⟩
    have : l[i] = x := by simpa [List.getD, hi] using e
    rw [← this]; exact List.getElem_mem hi
/-- The union. -/
def uniteL (a b : List Int) : List Int := if setB a && setB b then ((List.range 24).map fun i : Nat => (i : Int)).filter fun x => decide (x ∈ a) || decide (x ∈ b) else []
/-- What both have. -/
def meetL (a b : List Int) : List Int := if setB a && setB b then a.filter fun x => decide (x ∈ b) else []
/-- What the first alone has. -/
def subL (a b : List Int) : List Int := if setB a && setB b then a.filter fun x => !decide (x ∈ b) else []
end Go.Proofs.YteelgogfpidcdaaGreatDoor
namespace Go.Proofs.YteelgogfpidcdaaGreatDoor
open Go.RowKit
set_option linter.unusedVariables false
theorem ret_b {b c : Bool} (h : b = c) : Ending.returned (.bool b) = .returned (.bool c) := by rw [h]
theorem in_yes (a l h : Int) (w : World) (h1 : l ≤ a) (h2 : a ≤ h) : Calls Tryz.prog 41 #[.int .i64 a, .int .i64 l, .int .i64 h] w fun e w' => e = .returned (.bool true) ∧ w' = w := by
  go_enter Tryz.func41, Tryz.ntmps41
  go_wp2
  go_ret
  exact ⟨rfl, rfl⟩
theorem in_no (a l h : Int) (w : World) (hh : ¬ (l ≤ a ∧ a ≤ h)) : Calls Tryz.prog 41 #[.int .i64 a, .int .i64 l, .int .i64 h] w fun e w' => e = .returned (.bool false) ∧ w' = w := by
  by_cases h1 : l ≤ a
  · have h2 : ¬ a ≤ h := by omega
    clear hh
    go_enter Tryz.func41, Tryz.ntmps41
    go_wp2
    go_ret
    exact ⟨rfl, rfl⟩
  · clear hh
    go_enter Tryz.func41, Tryz.ntmps41
    go_wp2
    go_ret
    exact ⟨rfl, rfl⟩
/-! ### HasMember -/
/-! ### IsSet -/
end Go.Proofs.YteelgogfpidcdaaGreatDoor
namespace Go.Proofs.YteelgogfpidcdaaGreatDoor
open Go.RowKit
set_option linter.unusedVariables false
/-- Is it a row? -/
def rowB (r : RowD) : Bool := decide (0 ≤ r.1 ∧ r.1 ≤ 999) && (r.2.all (fun x => decide (0 ≤ x ∧ x ≤ 99)) && decide (r.2.length = 3))
theorem rowB_bad {id : Int} {xs : List Int} {k : Nat} (hk : k < xs.length) (h : ¬ (0 ≤ xs.getD k 0 ∧ xs.getD k 0 ≤ 99)) : rowB (id, xs) = false := by
  have e : xs.getD k 0 = xs[k] := by simp [List.getD, hk]
  rw [e] at h
  have : (xs.all fun x => decide (0 ≤ x ∧ x ≤ 99)) = false := by
    rw [Bool.eq_false_iff]
    intro g
    rw [List.all_eq_true] at g
    exact h (of_decide_eq_true (g _ (List.getElem_mem hk)))
  unfold rowB
  simp only [this]
  simp
theorem rowB_all {id : Int} {xs : List Int} (h : ∀ k, k < xs.length → 0 ≤ xs.getD k 0 ∧ xs.getD k 0 ≤ 99) : rowB (id, xs) = (decide (0 ≤ id ∧ id ≤ 999) && decide (xs.length = 3)) := by
  have : (xs.all fun x => decide (0 ≤ x ∧ x ≤ 99)) = true := by
    rw [List.all_eq_true]
    intro x hx
    obtain ⟨k, hk, rfl⟩ := List.getElem_of_mem hx
    have := h k hk
    have e : xs.getD k 0 = xs[k] := by simp [List.getD, hk]
    rw [e] at this
    exact decide_eq_true this
  unfold rowB
  simp only [this, Bool.true_and]
set_option maxHeartbeats 2000000 in
set_option maxRecDepth 100000 in
theorem specIsRow (id : Int) (vv : Value) (xs : List Int) (w : World) (h : Ints w vv xs) (hn : xs.length ≤ 1048576) :
    Calls Tryz.prog 45 #[.agg #[.int .i64 id, vv]] w fun e w' => e = .returned (.bool (rowB (id, xs))) ∧ Below w.heap.size w w' := by
  have H := Lib.hid h
  obtain ⟨a, cap, rfl⟩ := ints_len h
  clear h
  go_enter Tryz.func45, Tryz.ntmps45
  go_wp2
  have hb0 : Below w.heap.size w (w.alloc (.cells #[.int .i64 id, .slice a xs.length cap] 36)) := (Below.refl _ w).alloc (Nat.le_refl _) _
  have hc0 : (w.alloc (.cells #[.int .i64 id, .slice a xs.length cap] 36)).heap[w.heap.size]? = some (.cells #[.int .i64 id, .slice a xs.length cap] 36 (0, 0)) := heap_alloc_new w _
  have d0 := (cell_of_row _ _ 0 _ _ _ hc0).trans (show _ = some (Value.int .i64 id) from rfl)
  have d1 := (cell_of_row _ _ 1 _ _ _ hc0).trans (show _ = some (Value.slice a xs.length cap) from rfl)
  have H1 := Lib.hid (ints_below H.out hb0)
  have hlt1 : w.heap.size < (w.alloc (.cells #[.int .i64 id, .slice a xs.length cap] 36)).heap.size := by simp [World.size_alloc]
  generalize w.alloc (.cells #[.int .i64 id, .slice a xs.length cap] 36) = W at *
  clear hc0
  go_loopw [3] (fun i wr => ∃ k : Nat, k ≤ xs.length ∧ i = .int .i64 k ∧ Hid (∀ j, j < k → 0 ≤ xs.getD j 0 ∧ xs.getD j 0 ≤ 99) ∧ Below W.heap.size W wr) (fun i _ => xs.length - (intOf i).toNat)
  case atStart => exact ⟨0, Nat.zero_le _, rfl, Lib.hid (fun j hj => by omega), Below.refl _ _⟩
  case round =>
    obtain ⟨k, hk, rfl, hall, hbel⟩ := hrel
    have c0 := (hbel.cell (p := ⟨w.heap.size, 0, none⟩) hlt1).trans d0
    have c1 := (hbel.cell (p := ⟨w.heap.size, 1, none⟩) hlt1).trans d1
    by_cases hlt : k < xs.length
    · obtain ⟨b, off, cap', hv, hbl, hc⟩ := ints_cell H1.out (by omega)
      simp only [Value.slice.injEq] at hv
      obtain ⟨rfl, _, rfl⟩ := hv
      have hcell := (hbel.cell (p := ⟨b, off + k, none⟩) hbl).trans (hc k hlt)
      have i1 : (0 : Int) ≤ (k : Int) := by omega
      have i2 : (k : Int) < (xs.length : Int) := by omega
      clear hc
      by_cases hr : 0 ≤ xs.getD k 0 ∧ xs.getD k 0 ≤ 99
      · have HA : Hid (∀ j, j < k + 1 → 0 ≤ xs.getD j 0 ∧ xs.getD j 0 ≤ 99) := Lib.hid (fun j hj => by
          by_cases e : j = k
          · exact e ▸ hr
          · exact hall.out j (by omega))
        have HI := Lib.hid (fun w => in_yes (xs.getD k 0) 0 99 w hr.1 hr.2)
        clear hr hall
        generalize xs.getD k 0 = y at *
        go_wp2_with fail
        refine (HI.out _).mono ?_
        rintro e wx ⟨rfl, rfl⟩
        go_wp2
        go_roundw
        case rel => exact ⟨k + 1, by omega, by go_num, HA, hbel⟩
        case measure => simp [intOf]; omega
      · have HF := Lib.hid (rowB_bad (id := id) hlt hr)
        have HI := Lib.hid (fun w => in_no (xs.getD k 0) 0 99 w hr)
        clear hr hall
        generalize xs.getD k 0 = y at *
        go_wp2_with fail
        refine (HI.out _).mono ?_
        rintro e wx ⟨rfl, rfl⟩
        go_wp2
        go_ret
        exact ⟨ret_b HF.out.symm, hb0.trans (hbel.mono hb0.size)⟩
    · obtain rfl : k = xs.length := by omega
      have HF := Lib.hid (rowB_all (id := id) hall.out)
      clear hall
      by_cases hr : 0 ≤ id ∧ id ≤ 999
      · have HI := Lib.hid (fun w => in_yes id 0 999 w hr.1 hr.2)
        have HD := Lib.hid (decide_eq_true hr)
        rw [HD.out] at HF
        clear hr HD
        go_wp2_with fail
        refine (HI.out _).mono ?_
        rintro e wx ⟨rfl, rfl⟩
        by_cases h3 : xs.length = 3
        · have h3' : ((xs.length : Int) == 3) = true := by rw [beq_iff_eq]; omega
          have HE : Hid (rowB (id, xs) = true) := Lib.hid (by rw [HF.out, decide_eq_true h3]; rfl)
          clear h3
          go_wp2
          go_ret
          exact ⟨ret_b HE.out.symm, hb0.trans (hbel.mono hb0.size)⟩
        · have h3' : ((xs.length : Int) == 3) = false := by rw [beq_eq_false_iff_ne]; omega
          have HE : Hid (rowB (id, xs) = false) := Lib.hid (by rw [HF.out, decide_eq_false h3]; rfl)
          clear h3
          go_wp2
          go_ret
          exact ⟨ret_b HE.out.symm, hb0.trans (hbel.mono hb0.size)⟩
      · have HI := Lib.hid (fun w => in_no id 0 999 w hr)
        have HE : Hid (rowB (id, xs) = false) := Lib.hid (by rw [HF.out, decide_eq_false hr]; rfl)
        clear hr HF
        go_wp2_with fail
        refine (HI.out _).mono ?_
        rintro e wx ⟨rfl, rfl⟩
        go_wp2
        go_ret
        exact ⟨ret_b HE.out.symm, hb0.trans (hbel.mono hb0.size)⟩
end Go.Proofs.YteelgogfpidcdaaGreatDoor
namespace Go.Proofs.YteelgogfpidcdaaGreatDoor
open Go.RowKit
set_option linter.unusedVariables false
theorem ints_heap {w w' : World} {v : Value} {xs : List Int} (h : Ints w v xs) (hh : w'.heap = w.heap) : Ints w' v xs := by
  rcases h with h | ⟨b, off, cap, h1, h2, h3, h4⟩
  · exact Or.inl h
  · refine Or.inr ⟨b, off, cap, h1, h2, by rw [hh]; exact h3, fun j hj => ?_⟩
    have := h4 j hj
    unfold World.cell? at this ⊢
    rw [hh]; exact this
theorem box_cells {W w : World} {t : TypeId} {x y : Value} {b : Nat} (h : W.heap[b]? = some (.cells #[x, y] t (0, 0))) (hb : Below W.heap.size W w) :
    w.cell? ⟨b, 0, none⟩ = some x ∧ w.cell? ⟨b, 1, none⟩ = some y := by
  have hlt := (Array.getElem?_eq_some_iff.1 h).1
  have h' := (hb.block b hlt).trans h
  exact ⟨(cell_of_row w b 0 _ _ _ h').trans rfl, (cell_of_row w b 1 _ _ _ h').trans rfl⟩
theorem below_drew {B : Nat} {a w : World} (h : Below B a w) : Below B a w.drew := ⟨h.os, h.tape, h.output, h.size, h.block⟩
end Go.Proofs.YteelgogfpidcdaaGreatDoor
namespace Go.Proofs.YteelgogfpidcdaaGreatDoor
open Go.RowKit
set_option linter.unusedVariables false
theorem ownsN_cap {w : World} {B : Nat} {v : Value} {xs : List Int} (h : OwnsN w B v xs) : ∃ a cap, v = .slice a xs.length cap ∧ xs.length ≤ cap := by
  rcases h.2 with ⟨rfl, h0⟩ | ⟨g, cap, cur, rfl, hb, hg, hn, _⟩
  · exact ⟨none, 0, by rw [h0], by rw [h0]; exact Nat.le_refl _⟩
  · exact ⟨_, cap, rfl, hn⟩
theorem run_append_ints {w : World} {B : Nat} {v u : Value} {xs ys : List Int} (ty : TypeId) (hown : OwnsN w B v xs) (hu : Ints w u ys) (hB : B ≤ w.heap.size) (h63 : xs.length + ys.length ≤ 17592186044416) :
    ∃ v' w', (Builtin.append_ #[25, 25] ty #[v, u]).run Tryz.prog w = .ok v' w' ∧ OwnsN w' B v' (xs ++ ys) ∧ Below B w w' := by
  obtain ⟨i0, hi, hz0, hz1, hz2⟩ := info_parts Tryz.infoI64
  rcases hu with ⟨rfl, a', cap', rfl⟩ | ⟨b, off, cap', rfl, hcap, hbl, hc⟩
  · obtain ⟨a, cap, rfl, hle⟩ := ownsN_cap hown
    have hs : Src Tryz.prog i0.size 25 (.slice a' 0 cap') 0 [] w := by
      cases a' with
      | none => exact Src.ofNil w Tryz.underlying25 cap'
      | some ad => exact Src.ofSlice w Tryz.underlying25 ad 0 cap' [] (by simp) (by simp) (by simp)
    exact ⟨_, _, run_append_nothing w 25 25 ty 3 i0 Tryz.underlying25 hi a xs.length cap hle _ hs, by simpa using hown, Below.refl B w⟩
  · obtain ⟨v', w', hr, h2, h3, h4⟩ := run_append_own (P := Tryz.prog) w B 25 ty 3 i0 (.int .i64 0) 1 8 Tryz.underlying25 hi hz0 hz1 hz2 rfl (by decide) v xs.length _ hown ⟨b, off, none⟩ ys.length cap' (ys.map (Value.int .i64)) (by simp) (by
        intro j q hj
        rw [Go.WideShapes.add_plain]
        rw [List.getElem?_map] at hj
        by_cases hlt : j < ys.length
        · rw [hc j hlt]
          rw [List.getElem?_eq_getElem hlt] at hj
          simpa [List.getD, hlt] using hj
        · rw [List.getElem?_eq_none (by omega)] at hj
          simp at hj) (by intro q hq; simp at hq; obtain ⟨y, _, rfl⟩ := hq; rfl) (by unfold maxLen; omega) (by omega) hB
    refine ⟨v', w', hr, ?_, ?_⟩
    · unfold OwnsN
      simpa using h2
    · exact (Below.refl B w).grown h3 hB (fun k hk => (hown.lt k hk).1)
/-- As a step of a region taken by hand. -/
theorem step_append_ints {w : World} {ops : Array Oper} {o : Oper} {a : Act} {K : Act → World → Prop} {Q : Exit → Act → World → Prop} {E : Prop} (hwa : Region.wanted o (yielded ops a.tmps) = true) (s x : Operand)
    (ho : o.op = .call { callee := .builtin .append, args := #[s, x], argTypes := #[25, 25] })
    (B : Nat) (v u : Value) (xs ys : List Int) (hs : a.eval s = v) (hx : a.eval x = u) (hown : OwnsN w B v xs) (hu : Ints w u ys) (hB : B ≤ w.heap.size) (h63 : xs.length + ys.length ≤ 17592186044416)
    (h : ∀ v' w', OwnsN w' B v' (xs ++ ys) → Below B w w' → K (a.put o.dst v') w') : if Region.wanted o (yielded ops a.tmps) = true then Oper.wp Tryz.prog o a w K Q else E := by
  rw [if_pos hwa]
  obtain ⟨v', w', hr, h2, h3⟩ := run_append_ints o.type hown hu hB h63
  unfold Oper.wp execOp
  simp only [ho, resolve, invoke, builtin, Sem.run_bind, Sem.run_pure, Result.andThen_ok, List.map_toArray, List.map_cons, List.map_nil, hs, hx, hr]
  exact h v' w' h2 h3
end Go.Proofs.YteelgogfpidcdaaGreatDoor
namespace Go.Proofs.YteelgogfpidcdaaGreatDoor
open Go.RowKit
set_option linter.unusedVariables false
/-- The slice v reads as the rows rs; vs: where their values lie. -/
def RowsR (w : World) (v : Value) (rs : List RowD) : Prop :=
  (rs = [] ∧ ∃ a cap, v = .slice a 0 cap) ∨ ∃ (b off cap : Nat) (vs : Nat → Value), v = .slice (some ⟨b, off, none⟩) rs.length cap ∧ rs.length ≤ cap ∧ b < w.heap.size ∧
    ∀ j, j < rs.length → w.cell? ⟨b, off + j * 2, none⟩ = some (.int .i64 (rs.getD j (0, [])).1) ∧ w.cell? ⟨b, off + j * 2 + 1, none⟩ = some (vs j) ∧ Ints w (vs j) (rs.getD j (0, [])).2
theorem rowsR_len {w : World} {v : Value} {rs : List RowD} (h : RowsR w v rs) : ∃ a cap, v = .slice a rs.length cap := by
  rcases h with ⟨rfl, a, cap, rfl⟩ | ⟨b, off, cap, vs, rfl, _⟩
  · exact ⟨a, cap, rfl⟩
  · exact ⟨_, cap, rfl⟩
theorem rowsR_below {W w : World} {v : Value} {rs : List RowD} (h : RowsR W v rs) (hb : Below W.heap.size W w) : RowsR w v rs := by
  rcases h with h | ⟨b, off, cap, vs, h1, h2, h3, h4⟩
  · exact Or.inl h
  · refine Or.inr ⟨b, off, cap, vs, h1, h2, Nat.lt_of_lt_of_le h3 hb.size, fun j hj => ?_⟩
    obtain ⟨g1, g2, g3⟩ := h4 j hj
    exact ⟨(hb.cell (p := ⟨b, off + j * 2, none⟩) h3).trans g1, (hb.cell (p := ⟨b, off + j * 2 + 1, none⟩) h3).trans g2, ints_below g3 hb⟩
theorem rowsR_at {w : World} {v : Value} {rs : List RowD} (h : RowsR w v rs) {k : Nat} (hk : k < rs.length) : ∃ (b off cap : Nat) (vv : Value), v = .slice (some ⟨b, off, none⟩) rs.length cap ∧ b < w.heap.size ∧
    w.cell? ⟨b, off + k * 2, none⟩ = some (.int .i64 (rs.getD k (0, [])).1) ∧ w.cell? ⟨b, off + k * 2 + 1, none⟩ = some vv ∧ Ints w vv (rs.getD k (0, [])).2 := by
  rcases h with ⟨rfl, _⟩ | ⟨b, off, cap, vs, h1, h2, h3, h4⟩
  · simp at hk
  · obtain ⟨g1, g2, g3⟩ := h4 k hk
    exact ⟨b, off, cap, vs k, h1, h3, g1, g2, g3⟩
/-- How many values and elements the first k rows hold. -/
def szTo (rs : List RowD) (k : Nat) : Nat := rs.length + ((rs.take k).map fun r => r.2.length).sum
def szL (rs : List RowD) : Nat := szTo rs rs.length
theorem szTo_zero (rs : List RowD) : szTo rs 0 = rs.length := by simp [szTo]
theorem szTo_step {rs : List RowD} {k : Nat} (hk : k < rs.length) : szTo rs (k + 1) = szTo rs k + (rs.getD k (0, [])).2.length := by
  unfold szTo
  have e : rs.getD k (0, []) = rs[k] := by simp [List.getD, hk]
  rw [e, List.take_succ_eq_append_getElem hk, List.map_append, List.sum_append]
  simp; omega
theorem szTo_le {rs : List RowD} {k : Nat} (hk : k ≤ rs.length) : szTo rs k ≤ szL rs := by
  unfold szL szTo
  obtain ⟨d, hd⟩ : ∃ d, rs.length = k + d := ⟨rs.length - k, by omega⟩
  have : rs = rs.take k ++ rs.drop k := (List.take_append_drop k rs).symm
  have h2 : (rs.map fun r => r.2.length).sum = ((rs.take k).map fun r => r.2.length).sum + ((rs.drop k).map fun r => r.2.length).sum := by
    rw [← List.sum_append, ← List.map_append, List.take_append_drop]
  rw [List.take_length, h2]
  omega
end Go.Proofs.YteelgogfpidcdaaGreatDoor
namespace Go.Proofs.YteelgogfpidcdaaGreatDoor
open Go.RowKit
set_option linter.unusedVariables false
theorem Tryz.infoRow : (Tryz.prog.info? 36).map (fun i => (i.zero, i.size)) = some (some (.agg #[.int .i64 0, .slice none 0 0]), 2) := by kernel_rfl
theorem row_bytes : (Tryz.prog.info? 36).map (fun i => i.bytes) = some 32 := by kernel_rfl
/-- The slice v owns the rows rs, in blocks from B on, each block once. -/
def OwnsR (w : World) (B : Nat) (v : Value) (rs : List RowD) : Prop :=
  ∃ (cs : List Value) (vs : Nat → Value), w.ownsRow B 36 2 v rs.length cs ∧
    (∀ j, j < rs.length → cs[j * 2]? = some (.int .i64 (rs.getD j (0, [])).1) ∧ cs[j * 2 + 1]? = some (vs j) ∧ OwnsN w B (vs j) (rs.getD j (0, [])).2 ∧ ∀ b, (vs j).ownBlock = some b → v.ownBlock ≠ some b) ∧
    ∀ i j, i < rs.length → j < rs.length → i ≠ j → ∀ b, (vs i).ownBlock = some b → (vs j).ownBlock ≠ some b
theorem ownsR_len {w : World} {B : Nat} {v : Value} {rs : List RowD} (h : OwnsR w B v rs) : ∃ a cap, v = .slice a rs.length cap := by
  obtain ⟨cs, vs, h1, _⟩ := h
  rcases h1.2 with ⟨rfl, h0⟩ | ⟨g, cap, cur, rfl, _⟩
  · exact ⟨none, 0, by rw [h0]⟩
  · exact ⟨_, cap, rfl⟩
theorem ownsR_rows {w : World} {B : Nat} {v : Value} {rs : List RowD} (h : OwnsR w B v rs) : RowsR w v rs := by
  obtain ⟨cs, vs, h1, h2, _⟩ := h
  have h1' := h1
  rcases h1.2 with ⟨rfl, h0⟩ | ⟨g, cap, cur, rfl, hb, hg, hn, hm, hcs, htake⟩
  · exact Or.inl ⟨List.eq_nil_of_length_eq_zero h0, none, 0, rfl⟩
  · refine Or.inr ⟨g, 0, cap, vs, rfl, hn, (Array.getElem?_eq_some_iff.1 hg).1, fun j hj => ?_⟩
    obtain ⟨g1, g2, g3, _⟩ := h2 j hj
    refine ⟨?_, ?_, ownsN_ints g3⟩
    · rw [Nat.zero_add, World.ownsRow.cellAt h1' (j * 2) (by omega)]; exact g1
    · rw [Nat.zero_add, World.ownsRow.cellAt h1' (j * 2 + 1) (by omega)]; exact g2
theorem ownsRow_below {w w' : World} {B : Nat} {e : TypeId} {size : Nat} {v : Value} {n : Nat} {xs : List Value} (h : w.ownsRow B e size v n xs) (hb : Below w.heap.size w w') : w'.ownsRow B e size v n xs := by
  refine ⟨h.1, ?_⟩
  rcases h.2 with hn | ⟨g, cap, cur, rfl, hb', hg, rest⟩
  · exact .inl hn
  · refine .inr ⟨g, cap, cur, rfl, hb', ?_, rest⟩
    rw [hb.block g (Array.getElem?_eq_some_iff.1 hg).1]
    exact hg
theorem ownsR_below {w w' : World} {B : Nat} {v : Value} {rs : List RowD} (h : OwnsR w B v rs) (hb : Below w.heap.size w w') : OwnsR w' B v rs := by
  obtain ⟨cs, vs, h1, h2, h3⟩ := h
  exact ⟨cs, vs, ownsRow_below h1 hb, fun j hj => ⟨(h2 j hj).1, (h2 j hj).2.1, ownsN_below (h2 j hj).2.2.1 hb, (h2 j hj).2.2.2⟩, h3⟩
theorem ownsR_up {w : World} {B C : Nat} {v : Value} {rs : List RowD} (h : OwnsR w C v rs) (hb : B ≤ C) : OwnsR w B v rs := by
  obtain ⟨cs, vs, h1, h2, h3⟩ := h
  refine ⟨cs, vs, ⟨h1.1, ?_⟩, fun j hj => ⟨(h2 j hj).1, (h2 j hj).2.1, ownsN_up (h2 j hj).2.2.1 hb, (h2 j hj).2.2.2⟩, h3⟩
  rcases h1.2 with hn | ⟨g, cap, cur, e, hb', rest⟩
  · exact .inl hn
  · exact .inr ⟨g, cap, cur, e, Nat.le_trans hb hb', rest⟩
/-- A row whose values were made since w0 is stored at place k. -/
theorem ownsR_store {w0 w1 : World} {B g n cap : Nat} {rs : List RowD} (h : OwnsR w0 B (.slice (some ⟨g, 0, none⟩) n cap) rs) (hb : Below w0.heap.size w0 w1) (hB : B ≤ w0.heap.size) {k : Nat} (hk : k < rs.length) (r : RowD) {vv : Value} (hv : OwnsN w1 w0.heap.size vv r.2) :
    OwnsR ((w1.setCell ⟨g, k * 2, none⟩ (.int .i64 r.1)).setCell ⟨g, k * 2 + 1, none⟩ vv) B (.slice (some ⟨g, 0, none⟩) n cap) (rs.set k r) := by
  obtain ⟨cs, vs, h1, h2, h3⟩ := h
  have hgl : g < w0.heap.size := (h1.lt g rfl).2
  have hn : n = rs.length := by
    rcases h1.2 with ⟨h', _⟩ | ⟨_, _, _, h', _⟩
    · simp at h'
    · simp only [Value.slice.injEq] at h'; exact h'.2.1
  subst hn
  have k1 := ownsRow_below h1 hb
  have s1 := (World.ownsRow.stored k1 (k * 2) (.int .i64 r.1)).1
  have s2 := (World.ownsRow.stored s1 (k * 2 + 1) vv).1
  have hcl : cs.length = rs.length * 2 := h1.1
  have hlow : ∀ (u : Value) (xs : List Int) (C : Nat), OwnsN w1 C u xs → (∀ b, u.ownBlock = some b → b ≠ g) → OwnsN ((w1.setCell ⟨g, k * 2, none⟩ (.int .i64 r.1)).setCell ⟨g, k * 2 + 1, none⟩ vv) C u xs := by
    intro u xs C hu hne
    have hp : u.ownBlock = none ∨ u.ownBlock ≠ some g := by
      cases e : u.ownBlock with
      | none => exact Or.inl rfl
      | some b => exact Or.inr (fun q => hne b e (Option.some.inj q))
    exact (World.ownsRow.kept hu (grow_set w1 g (k * 2) _) hp).kept (grow_set _ g (k * 2 + 1) _) hp
  refine ⟨(cs.set (k * 2) (.int .i64 r.1)).set (k * 2 + 1) vv, fun j => if j = k then vv else vs j, ?_, ?_, ?_⟩
  · rw [List.length_set]; exact s2
  · intro j hj
    rw [List.length_set] at hj
    by_cases e : j = k
    · subst e
      have er : (rs.set j r).getD j (0, []) = r := by simp [List.getD, hj]
      rw [er]
      simp only [if_true]
      refine ⟨?_, ?_, ?_, ?_⟩
      · rw [List.getElem?_set_ne (by omega), List.getElem?_set_self (by omega)]
      · rw [List.getElem?_set_self (by rw [List.length_set]; omega)]
      · exact ownsN_up (hlow vv r.2 _ hv (fun b eb => by have := (hv.lt b eb).1; omega)) hB
      · intro b eb
        have := (hv.lt b eb).1
        simp [Value.ownBlock]; omega
    · obtain ⟨g1, g2, g3, g4⟩ := h2 j hj
      have er : (rs.set k r).getD j (0, []) = rs.getD j (0, []) := by simp [List.getD, List.getElem?_set_ne (Ne.symm e)]
      rw [er]
      simp only [if_neg e]
      refine ⟨?_, ?_, ?_, g4⟩
      · rw [List.getElem?_set_ne (by omega), List.getElem?_set_ne (by omega)]; exact g1
      · rw [List.getElem?_set_ne (by omega), List.getElem?_set_ne (by omega)]; exact g2
      · exact hlow _ _ _ (ownsN_below g3 hb) (fun b eb q => g4 b eb (by rw [q]; rfl))
  · intro i j hi hj hij b hbi
    rw [List.length_set] at hi hj
    by_cases ei : i = k
    · simp only [if_pos ei] at hbi
      have h5 := (hv.lt b hbi).1
      have ej : j ≠ k := by omega
      simp only [if_neg ej]
      intro q
      have := ((h2 j hj).2.2.1.lt b q).2
      omega
    · simp only [if_neg ei] at hbi
      by_cases ej : j = k
      · simp only [if_pos ej]
        intro q
        have h5 := (hv.lt b q).1
        have := ((h2 i hi).2.2.1.lt b hbi).2
        omega
      · simp only [if_neg ej]
        exact h3 i j hi hj hij b hbi
theorem madeRow_at (n j : Nat) (hj : j < n) : (madeCells #[Value.int .i64 0, Value.slice none 0 0] (n * 2)).toList[j * 2]? = some (.int .i64 0) ∧ (madeCells #[Value.int .i64 0, Value.slice none 0 0] (n * 2)).toList[j * 2 + 1]? = some (.slice none 0 0) := by
  have e1 : (j * 2) % 2 = 0 := by omega
  have e2 : (j * 2 + 1) % 2 = 1 := by omega
  constructor
  · rw [Array.getElem?_toList]
    unfold madeCells
    rw [Array.getElem?_map, Array.getElem?_range]
    simp [e1, show j * 2 < n * 2 by omega]
  · rw [Array.getElem?_toList]
    unfold madeCells
    rw [Array.getElem?_map, Array.getElem?_range]
    simp [e2, show j * 2 + 1 < n * 2 by omega]
theorem ownsR_made {w : World} {B g n : Nat} (h : w.ownsRow B 36 2 (.slice (some ⟨g, 0, none⟩) n n) n (madeCells #[Value.int .i64 0, Value.slice none 0 0] (n * 2)).toList) : OwnsR w B (.slice (some ⟨g, 0, none⟩) n n) (List.replicate n (0, [])) := by
  refine ⟨_, fun _ => .slice none 0 0, by rw [List.length_replicate]; exact h, fun j hj => ?_, fun i j _ _ _ b hb => by simp [Value.ownBlock] at hb⟩
  rw [List.length_replicate] at hj
  have er : (List.replicate n ((0, []) : RowD)).getD j (0, []) = (0, []) := by simp [List.getD, hj]
  rw [er]
  obtain ⟨m1, m2⟩ := madeRow_at n j hj
  exact ⟨m1, m2, ownsN_nil w B, fun b hb => by simp [Value.ownBlock] at hb⟩
end Go.Proofs.YteelgogfpidcdaaGreatDoor
namespace Go.Proofs.YteelgogfpidcdaaGreatDoor
open Go.RowKit
set_option linter.unusedVariables false
/-- A slice of rows in new memory is answered. -/
def FreshRows (w : World) (rs : List RowD) (e : Ending) (w' : World) : Prop := ∃ v, e = .returned v ∧ OwnsR w' w.heap.size v rs ∧ Below w.heap.size w w'
theorem rows_copied (rs : List RowD) (k : Nat) (h : k < rs.length) : (rs.take k ++ List.replicate (rs.length - k) (0, [])).set k (rs.getD k (0, [])) = rs.take (k + 1) ++ List.replicate (rs.length - (k + 1)) (0, []) := by
  have hk : (rs.take k).length = k := by rw [List.length_take]; omega
  rw [List.set_append_right _ _ (by omega), hk, Nat.sub_self, show rs.length - k = (rs.length - (k + 1)) + 1 by omega, List.replicate_succ, List.set_cons_zero, List.take_succ_eq_append_getElem h, List.append_assoc]
  simp [List.getD, h]
end Go.Proofs.YteelgogfpidcdaaGreatDoor
namespace Go.Proofs.YteelgogfpidcdaaGreatDoor
open Go.RowKit
set_option linter.unusedVariables false
theorem below_dn {B : Nat} {a w : World} (h : Below B a w) (q : Nat) : Below B a (w.drewN q) := ⟨h.os, h.tape, h.output, h.size, h.block⟩
theorem list_ne_at {xs ys : List Int} {k : Nat} (hx : k < xs.length) (h : ¬ xs.getD k 0 = ys.getD k 0) : ¬ xs = ys := fun e => h (by rw [e])
theorem list_eq_all {xs ys : List Int} (hl : xs.length = ys.length) (h : ∀ j, j < xs.length → xs.getD j 0 = ys.getD j 0) : xs = ys := by
  apply List.ext_getElem hl
  intro i h1 h2
  have := h i h1
  simpa [List.getD, h1, h2] using this
set_option maxHeartbeats 2000000 in
set_option maxRecDepth 100000 in
theorem specInts (v u : Value) (xs ys : List Int) (w : World) (h : Ints w v xs) (g : Ints w u ys) (hn : xs.length ≤ 1048576) (hm : ys.length ≤ 1048576) :
    Calls Tryz.prog 57 #[v, u] w fun e w' => e = .returned (.bool (decide (xs = ys))) ∧ Below w.heap.size w w' := by
  have H := Lib.hid h
  have G := Lib.hid g
  obtain ⟨a, cap, rfl⟩ := ints_len h
  obtain ⟨a2, cap2, rfl⟩ := ints_len g
  clear h g
  by_cases hl : xs.length = ys.length
  · have HL := Lib.hid hl
    have hne : ((xs.length : Int) != (ys.length : Int)) = false := by rw [hl]; simp
    clear hl
    go_enter Tryz.func57, Tryz.ntmps57
    go_wp2
    clear hne
    go_loopw [5] (fun i wr => ∃ k : Nat, k ≤ xs.length ∧ i = .int .i64 k ∧ Hid (∀ j, j < k → xs.getD j 0 = ys.getD j 0) ∧ Below w.heap.size w wr) (fun i _ => xs.length - (intOf i).toNat)
    case atStart => exact ⟨0, Nat.zero_le _, rfl, Lib.hid (fun j hj => by omega), Below.refl _ _⟩
    case round =>
      obtain ⟨k, hk, rfl, hall, hbel⟩ := hrel
      by_cases hlt : k < xs.length
      · obtain ⟨b, off, cap', hv, hbl, hc⟩ := ints_cell H.out (by omega)
        simp only [Value.slice.injEq] at hv
        obtain ⟨rfl, _, rfl⟩ := hv
        obtain ⟨b2, off2, cap2', hv2, hbl2, hc2⟩ := ints_cell G.out (by have := HL.out; omega)
        simp only [Value.slice.injEq] at hv2
        obtain ⟨rfl, _, rfl⟩ := hv2
        have hcell := (hbel.cell (p := ⟨b, off + k, none⟩) hbl).trans (hc k hlt)
        have hcell2 := (hbel.cell (p := ⟨b2, off2 + k, none⟩) hbl2).trans (hc2 k (by have := HL.out; omega))
        have i1 : (0 : Int) ≤ (k : Int) := by omega
        have i2 : (k : Int) < (xs.length : Int) := by omega
        have i3 : (k : Int) < (ys.length : Int) := by have := HL.out; omega
        clear hc hc2
        by_cases he : xs.getD k 0 = ys.getD k 0
        · have HA : Hid (∀ j, j < k + 1 → xs.getD j 0 = ys.getD j 0) := Lib.hid (fun j hj => by
            by_cases e : j = k
            · exact e ▸ he
            · exact hall.out j (by omega))
          rw [← he] at hcell2
          clear he hall
          generalize xs.getD k 0 = y at hcell hcell2
          go_wp2
          go_quiet (fail)
          go_wp2
          go_roundw
          case rel => exact ⟨k + 1, by omega, by go_num, HA, below_dn hbel _⟩
          case measure => simp [intOf]; omega
        · have HF := Lib.hid (decide_eq_false (list_ne_at hlt he))
          have heq : (xs.getD k 0 != ys.getD k 0) = true := by rw [bne_iff_ne]; exact he
          clear he hall
          generalize xs.getD k 0 = y at hcell heq
          generalize ys.getD k 0 = z at hcell2 heq
          go_wp2
          go_quiet (fail)
          go_wp2
          go_ret
          exact ⟨ret_b HF.out.symm, below_dn hbel _⟩
      · obtain rfl : k = xs.length := by omega
        have HT := Lib.hid (decide_eq_true (list_eq_all HL.out hall.out))
        clear hall
        go_wp2
        go_ret
        exact ⟨ret_b HT.out.symm, hbel⟩
  · have HF := Lib.hid (decide_eq_false (show ¬ xs = ys from fun e => hl (by rw [e])))
    have hne : ((xs.length : Int) != (ys.length : Int)) = true := by rw [bne_iff_ne]; omega
    clear hl
    go_enter Tryz.func57, Tryz.ntmps57
    go_wp2
    go_ret
    exact ⟨ret_b HF.out.symm, Below.refl _ _⟩
set_option maxHeartbeats 2000000 in
set_option maxRecDepth 100000 in
theorem specSame (id id2 : Int) (v u : Value) (xs ys : List Int) (w : World) (h : Ints w v xs) (g : Ints w u ys) (hn : xs.length ≤ 1048576) (hm : ys.length ≤ 1048576) :
    Calls Tryz.prog 27 #[.agg #[.int .i64 id, v], .agg #[.int .i64 id2, u]] w fun e w' => e = .returned (.bool (decide (((id, xs) : RowD) = (id2, ys)))) ∧ Below w.heap.size w w' := by
  have H := Lib.hid (fun w h g => specInts v u xs ys w h g hn hm)
  have HV := Lib.hid h
  have HU := Lib.hid g
  clear h g hn hm
  have hb : Below w.heap.size w ((w.alloc (.cells #[.int .i64 id, v] 36)).alloc (.cells #[.int .i64 id2, u] 36)) := ((Below.refl _ w).alloc (Nat.le_refl _) _).alloc (by simp) _
  by_cases he : id = id2
  · subst he
    have heq : (id == id) = true := by simp
    have HD : Hid (decide (((id, xs) : RowD) = (id, ys)) = decide (xs = ys)) := Lib.hid (by simp)
    rw [HD.out]
    obtain ⟨r, hr⟩ : ∃ r, decide (xs = ys) = r := ⟨_, rfl⟩
    rw [hr] at H
    have HR := Lib.hid hr
    clear hr HD
    go_enter Tryz.func27, Tryz.ntmps27
    go_wp2_with fail
    refine (H.out _ (ints_below HV.out hb) (ints_below HU.out hb)).mono ?_
    rintro e w1 ⟨rfl, b1⟩
    have b2 := hb.trans (b1.mono hb.size)
    go_wp2
    go_ret
    exact ⟨ret_b HR.out.symm, b2⟩
  · have heq : (id == id2) = false := by rw [beq_eq_false_iff_ne]; exact he
    have HD : Hid (decide (((id, xs) : RowD) = (id2, ys)) = false) := Lib.hid (decide_eq_false (fun e => he (Prod.mk.inj e).1))
    clear he
    go_enter Tryz.func27, Tryz.ntmps27
    go_wp2
    go_ret
    exact ⟨ret_b HD.out.symm, hb⟩
theorem szL_row {rs : List RowD} (hs : szL rs ≤ 1048576) {k : Nat} (hk : k < rs.length) : (rs.getD k (0, [])).2.length ≤ 1048576 := by
  have h1 := szTo_step hk
  have h2 := szTo_le (rs := rs) (k := k + 1) (by omega)
  omega
theorem szL_len {rs : List RowD} (hs : szL rs ≤ 1048576) : rs.length ≤ 1048576 := by
  have := szTo_le (rs := rs) (Nat.zero_le _); rw [szTo_zero] at this; omega
theorem rows_ne_at {rs ss : List RowD} {k : Nat} (h : ¬ rs.getD k (0, []) = ss.getD k (0, [])) : ¬ rs = ss := fun e => h (by rw [e])
theorem rows_eq_all {rs ss : List RowD} (hl : rs.length = ss.length) (h : ∀ j, j < rs.length → rs.getD j (0, []) = ss.getD j (0, [])) : rs = ss := by
  apply List.ext_getElem hl
  intro i h1 h2
  have := h i h1
  simpa [List.getD, h1, h2] using this
set_option maxHeartbeats 4000000 in
set_option maxRecDepth 100000 in
theorem specEqRows (v u : Value) (rs ss : List RowD) (w : World) (h : RowsR w v rs) (g : RowsR w u ss) (hs : szL rs ≤ 1048576) (ht : szL ss ≤ 1048576) :
    Calls Tryz.prog 7 #[v, u] w fun e w' => e = .returned (.bool (decide (rs = ss))) ∧ Below w.heap.size w w' := by
  have H := Lib.hid h
  have G := Lib.hid g
  have HS := Lib.hid hs
  have HT := Lib.hid ht
  have hlen := szL_len hs
  have hlen2 := szL_len ht
  obtain ⟨a, cap, rfl⟩ := rowsR_len h
  obtain ⟨a2, cap2, rfl⟩ := rowsR_len g
  clear h g hs ht
  by_cases hl : rs.length = ss.length
  · have HL := Lib.hid hl
    have hne : ((rs.length : Int) != (ss.length : Int)) = false := by rw [hl]; simp
    clear hl
    go_enter Tryz.func7, Tryz.ntmps7
    go_wp2
    clear hne
    go_loopw [5] (fun i wr => ∃ k : Nat, k ≤ rs.length ∧ i = .int .i64 k ∧ Hid (∀ j, j < k → rs.getD j (0, []) = ss.getD j (0, [])) ∧ Below w.heap.size w wr) (fun i _ => rs.length - (intOf i).toNat)
    case atStart => exact ⟨0, Nat.zero_le _, rfl, Lib.hid (fun j hj => by omega), Below.refl _ _⟩
    case round =>
      obtain ⟨k, hk, rfl, hall, hbel⟩ := hrel
      by_cases hlt : k < rs.length
      · have hlt2 : k < ss.length := by have := HL.out; omega
        obtain ⟨b, off, cap', vv, hv, hbl, hc1, hc2, hI⟩ := rowsR_at (rowsR_below H.out hbel) hlt
        simp only [Value.slice.injEq] at hv
        obtain ⟨rfl, _, rfl⟩ := hv
        obtain ⟨b2, off2, cap2', uv, hv2, hbl2, hd1, hd2, hJ⟩ := rowsR_at (rowsR_below G.out hbel) hlt2
        simp only [Value.slice.injEq] at hv2
        obtain ⟨rfl, _, rfl⟩ := hv2
        have hxl := szL_row HS.out hlt
        have hyl := szL_row HT.out hlt2
        have i1 : (0 : Int) ≤ (k : Int) := by omega
        have i2 : (k : Int) < (rs.length : Int) := by omega
        have i3 : (k : Int) < (ss.length : Int) := by omega
        have HNE := Lib.hid (fun e => decide_eq_false (rows_ne_at (rs := rs) (ss := ss) (k := k) e))
        have HALL : Hid (rs.getD k (0, []) = ss.getD k (0, []) → ∀ j, j < k + 1 → rs.getD j (0, []) = ss.getD j (0, [])) := Lib.hid (fun he j hj => by
          by_cases e : j = k
          · exact e ▸ he
          · exact hall.out j (by omega))
        clear hall
        generalize rs.getD k (0, []) = r at *
        generalize ss.getD k (0, []) = q at *
        obtain ⟨id, xs⟩ := r
        obtain ⟨id2, ys⟩ := q
        simp only at hc1 hc2 hd1 hd2 hI hJ hxl hyl
        have HSM := Lib.hid (fun w h g => specSame id id2 vv uv xs ys w h g hxl hyl)
        by_cases he : ((id, xs) : RowD) = (id2, ys)
        · have HA := Lib.hid (HALL.out he)
          rw [decide_eq_true he] at HSM
          clear he HNE HALL
          go_wp2
          go_region_with (first | (go_at_call 27; refine (HSM.out _ (by exact ints_heap hI rfl) (by exact ints_heap hJ rfl)).mono ?_; rintro e w8 ⟨rfl, b9⟩; have b10 : Below wr.heap.size wr w8 := ⟨b9.os, b9.tape, b9.output, b9.size, b9.block⟩))
          all_goals
            have b11 := hbel.trans (b10.mono hbel.size)
            go_wp2
            go_roundw
            case rel => exact ⟨k + 1, by omega, by go_num, HA, b11⟩
            case measure => simp [intOf]; omega
        · have HF := Lib.hid (HNE.out he)
          rw [decide_eq_false he] at HSM
          clear he HNE HALL
          go_wp2
          go_region_with (first | (go_at_call 27; refine (HSM.out _ (by exact ints_heap hI rfl) (by exact ints_heap hJ rfl)).mono ?_; rintro e w8 ⟨rfl, b9⟩; have b10 : Below wr.heap.size wr w8 := ⟨b9.os, b9.tape, b9.output, b9.size, b9.block⟩))
          all_goals
            have b11 := hbel.trans (b10.mono hbel.size)
            go_wp2
            go_ret
            exact ⟨ret_b HF.out.symm, b11⟩
      · obtain rfl : k = rs.length := by omega
        have HE := Lib.hid (decide_eq_true (rows_eq_all HL.out hall.out))
        clear hall
        go_wp2
        go_ret
        exact ⟨ret_b HE.out.symm, hbel⟩
  · have HF := Lib.hid (decide_eq_false (show ¬ rs = ss from fun e => hl (by rw [e])))
    have hne : ((rs.length : Int) != (ss.length : Int)) = true := by rw [bne_iff_ne]; omega
    clear hl
    go_enter Tryz.func7, Tryz.ntmps7
    go_wp2
    go_ret
    exact ⟨ret_b HF.out.symm, Below.refl _ _⟩
end Go.Proofs.YteelgogfpidcdaaGreatDoor
namespace Go.Proofs.YteelgogfpidcdaaGreatDoor
open Go.RowKit
set_option linter.unusedVariables false
theorem take_runs {P : Program} {ops : Array Oper} {Q : Exit → Act → World → Prop} {md : Region.Mode} {S : World → Prop} {i : Nat} {oi : Oper} {d : Option Tmp} {v : Value} {fuel : Nat} {listed : Array Bool} {a : Act} {w : World} (hi : ops[i]? = some oi)
    (hs : Region.noSelect ops = true) (hf : Region.free md ops listed i = true) (hr : (Region.ready md ops listed).contains i = true) (hd : oi.dst = d)
    (hQ : ∀ c a w, Q (.panic c) (a.put oi.dst v) w → Q (.panic c) a w) (hw : Region.wanted oi (yielded ops a.tmps) = true) (hy : ∀ w, S w → (execOp a.eval oi).run P w = .ok (.value v) w) (hS : S w)
    (h : wpAnyH P md ops Q S fuel (listed.setIfInBounds i true) (a.put d v) w) : wpAnyH P md ops Q S (fuel + 1) listed a w := by
  subst hd
  exact wpAnyH_take hi hs hf hr hQ (Or.inl ⟨hw, hy⟩) hS h
theorem take_over {P : Program} {ops : Array Oper} {Q : Exit → Act → World → Prop} {md : Region.Mode} {S : World → Prop} {i : Nat} {oi : Oper} {d : Option Tmp} {fuel : Nat} {listed : Array Bool} {a : Act} {w : World} (hi : ops[i]? = some oi)
    (hs : Region.noSelect ops = true) (hf : Region.free md ops listed i = true) (hr : (Region.ready md ops listed).contains i = true) (hd : oi.dst = d)
    (hQ : ∀ c a w, Q (.panic c) (a.put oi.dst undef) w → Q (.panic c) a w) (hw : Region.wanted oi (yielded ops a.tmps) = false) (hS : S w)
    (h : wpAnyH P md ops Q S fuel (listed.setIfInBounds i true) (a.put d undef) w) : wpAnyH P md ops Q S (fuel + 1) listed a w := by
  subst hd
  exact wpAnyH_take hi hs hf hr hQ (Or.inr ⟨hw, rfl⟩) hS h
end Go.Proofs.YteelgogfpidcdaaGreatDoor
namespace Go.Proofs.YteelgogfpidcdaaGreatDoor
open Go.RowKit
set_option linter.unusedVariables false
set_option linter.unusedSimpArgs false
/-- As far as k the rows are rows, in ascending order of their numbers. -/
def AreTo (rs : List RowD) (k : Nat) : Prop := ∀ i, i < k → rowB (rs.getD i (0, [])) = true ∧ (0 < i → (rs.getD (i - 1) (0, [])).1 < (rs.getD i (0, [])).1)
/-- Are they rows? -/
def areB (rs : List RowD) : Bool := (List.range rs.length).all (fun i => rowB (rs.getD i (0, [])) && (decide (i = 0) || decide ((rs.getD (i - 1) (0, [])).1 < (rs.getD i (0, [])).1))) && decide (rs.length ≤ 32)
theorem areB_all {rs : List RowD} (h : AreTo rs rs.length) : areB rs = decide (rs.length ≤ 32) := by
  have : (List.range rs.length).all (fun i => rowB (rs.getD i (0, [])) && (decide (i = 0) || decide ((rs.getD (i - 1) (0, [])).1 < (rs.getD i (0, [])).1))) = true := by
    rw [List.all_eq_true]
    intro i hi
    rw [List.mem_range] at hi
    obtain ⟨h1, h2⟩ := h i hi
    rw [h1]
    by_cases e : i = 0
    · simp [e]
    · rw [decide_eq_true (h2 (by omega))]; simp
  unfold areB
  simp only [this, Bool.true_and]
theorem areB_bad {rs : List RowD} {k : Nat} (hk : k < rs.length) (h : rowB (rs.getD k (0, [])) = false ∨ (0 < k ∧ ¬ (rs.getD (k - 1) (0, [])).1 < (rs.getD k (0, [])).1)) : areB rs = false := by
  have : (List.range rs.length).all (fun i => rowB (rs.getD i (0, [])) && (decide (i = 0) || decide ((rs.getD (i - 1) (0, [])).1 < (rs.getD i (0, [])).1))) = false := by
    rw [Bool.eq_false_iff]
    intro g
    rw [List.all_eq_true] at g
    have := g k (List.mem_range.2 hk)
    rw [Bool.and_eq_true, Bool.or_eq_true, decide_eq_true_eq, decide_eq_true_eq] at this
    rcases h with h | ⟨h1, h2⟩
    · rw [h] at this; exact Bool.noConfusion this.1
    · rcases this.2 with e | e
      · omega
      · exact h2 e
  unfold areB
  simp only [this, Bool.false_and]
theorem areTo_step {rs : List RowD} {k : Nat} (h : AreTo rs k) (h1 : rowB (rs.getD k (0, [])) = true) (h2 : 0 < k → (rs.getD (k - 1) (0, [])).1 < (rs.getD k (0, [])).1) : AreTo rs (k + 1) := fun i hi => by
  by_cases e : i = k
  · subst e; exact ⟨h1, h2⟩
  · exact h i (by omega)
end Go.Proofs.YteelgogfpidcdaaGreatDoor
namespace Go.Proofs.YteelgogfpidcdaaGreatDoor
open Go.RowKit
set_option linter.unusedVariables false
set_option linter.unusedSimpArgs false
/-- The first list lies before the second. -/
def lessL : List Int → List Int → Bool
  | _, [] => false
  | [], _ :: _ => true
  | x :: xs, y :: ys => if x = y then lessL xs ys else decide (x < y)
/-- Rows by their numbers, then by their values. -/
def rowLess (a b : RowD) : Bool := if a.1 = b.1 then lessL a.2 b.2 else decide (a.1 < b.1)
theorem lessL_step {xs ys : List Int} {k : Nat} (hx : k < xs.length) (hy : k < ys.length) (h : xs.getD k 0 = ys.getD k 0) : lessL (xs.drop k) (ys.drop k) = lessL (xs.drop (k + 1)) (ys.drop (k + 1)) := by
  rw [List.drop_eq_getElem_cons hx, List.drop_eq_getElem_cons hy]
  have e : xs[k] = ys[k] := by simpa [List.getD, hx, hy] using h
  simp only [lessL, e, if_true]
theorem lessL_ne {xs ys : List Int} {k : Nat} (hx : k < xs.length) (hy : k < ys.length) (h : ¬ xs.getD k 0 = ys.getD k 0) : lessL (xs.drop k) (ys.drop k) = decide (xs.getD k 0 < ys.getD k 0) := by
  rw [List.drop_eq_getElem_cons hx, List.drop_eq_getElem_cons hy]
  have e : ¬ xs[k] = ys[k] := by simpa [List.getD, hx, hy] using h
  simp only [lessL, if_neg e]
  simp [List.getD, hx, hy]
theorem lessL_end {xs ys : List Int} {k : Nat} (hx : k ≤ xs.length) (hy : k ≤ ys.length) (h : ¬ (k < xs.length ∧ k < ys.length)) : lessL (xs.drop k) (ys.drop k) = decide (xs.length < ys.length) := by
  by_cases e : k = ys.length
  · subst e
    rw [List.drop_length]
    rw [decide_eq_false (by omega)]
    unfold lessL
    rfl
  · have e2 : k = xs.length := by omega
    subst e2
    rw [List.drop_length, List.drop_eq_getElem_cons (by omega), decide_eq_true (by omega)]
    rfl
set_option maxHeartbeats 4000000 in
set_option maxRecDepth 100000 in
theorem l3LessInts_any (v u : Value) (xs ys : List Int) (w : World) (h : Ints w v xs) (g : Ints w u ys) (hn : xs.length ≤ 1048576) (hm : ys.length ≤ 1048576) :
    Calls Tryz.prog 84 #[v, u] w fun e w' => e = .returned (.bool (lessL xs ys)) ∧ Below w.heap.size w w' := by
  have H := Lib.hid h
  have G := Lib.hid g
  obtain ⟨a, cap, rfl⟩ := ints_len h
  obtain ⟨a2, cap2, rfl⟩ := ints_len g
  clear h g
  go_enter Tryz.func84, Tryz.ntmps84
  go_wp2
  go_loopw [5] (fun i wr => ∃ k : Nat, k ≤ xs.length ∧ k ≤ ys.length ∧ i = .int .i64 k ∧ Hid (lessL (xs.drop k) (ys.drop k) = lessL xs ys) ∧ Below w.heap.size w wr) (fun i _ => xs.length - (intOf i).toNat)
  case atStart => exact ⟨0, Nat.zero_le _, Nat.zero_le _, rfl, Lib.hid (by simp), Below.refl _ _⟩
  case round =>
    obtain ⟨k, hk, hk2, rfl, hall, hbel⟩ := hrel
    by_cases hlt : k < xs.length ∧ k < ys.length
    · obtain ⟨h1, h2⟩ := hlt
      obtain ⟨b, off, cap', hv, hbl, hc⟩ := ints_cell H.out (by omega)
      obtain ⟨b2, off2, cap2', hv2, hbl2, hc2⟩ := ints_cell G.out (by omega)
      simp only [Value.slice.injEq] at hv hv2
      obtain ⟨rfl, _, rfl⟩ := hv
      obtain ⟨rfl, _, rfl⟩ := hv2
      have hcell := (hbel.cell (p := ⟨b, off + k, none⟩) hbl).trans (hc k h1)
      have hcell2 := (hbel.cell (p := ⟨b2, off2 + k, none⟩) hbl2).trans (hc2 k h2)
      have i1 : (0 : Int) ≤ (k : Int) := by omega
      have i2 : (k : Int) < (xs.length : Int) := by omega
      have i3 : (k : Int) < (ys.length : Int) := by omega
      have HST := Lib.hid (fun e => (lessL_step h1 h2 e).symm.trans hall.out)
      have HNE := Lib.hid (fun e => (lessL_ne h1 h2 e).symm.trans hall.out)
      clear hc hc2 hall
      generalize xs.getD k 0 = x at *
      generalize ys.getD k 0 = y at *
      by_cases he : x = y
      · subst he
        have HA := Lib.hid (HST.out rfl)
        clear HST HNE
        go_wp2
        go_quiet (fail)
        go_wp2
        go_roundw
        case rel => exact ⟨k + 1, by omega, by omega, by go_num, HA, below_same hbel rfl rfl rfl rfl⟩
        case measure => simp [intOf]; omega
      · have HA := Lib.hid (HNE.out he)
        have hne : (x != y) = true := by rw [bne_iff_ne]; exact he
        clear HST HNE he
        go_wp2
        go_quiet (fail)
        go_wp2
        go_quiet (fail)
        go_wp2
        go_ret
        exact ⟨ret_b HA.out, below_same hbel rfl rfl rfl rfl⟩
    · have HE := Lib.hid ((lessL_end hk hk2 hlt).symm.trans hall.out)
      clear hall
      by_cases h1 : k < xs.length
      · have h2 : ¬ k < ys.length := fun h2 => hlt ⟨h1, h2⟩
        have i3 : ¬ (k : Int) < (ys.length : Int) := by omega
        have i2 : (k : Int) < (xs.length : Int) := by omega
        go_wp2
        go_ret
        exact ⟨ret_b (by rw [← HE.out]), hbel⟩
      · have i2 : ¬ (k : Int) < (xs.length : Int) := by omega
        go_wp2
        go_ret
        exact ⟨ret_b (by rw [← HE.out]), hbel⟩
set_option maxHeartbeats 4000000 in
set_option maxRecDepth 100000 in
theorem l3Less_any (id id2 : Int) (v u : Value) (xs ys : List Int) (w : World) (h : Ints w v xs) (g : Ints w u ys) (hn : xs.length ≤ 1048576) (hm : ys.length ≤ 1048576) :
    Calls Tryz.prog 58 #[.agg #[.int .i64 id, v], .agg #[.int .i64 id2, u]] w fun e w' => e = .returned (.bool (rowLess (id, xs) (id2, ys))) ∧ Below w.heap.size w w' := by
  have HL := Lib.hid (fun w h g => l3LessInts_any v u xs ys w h g hn hm)
  have hb : Below w.heap.size w ((w.alloc (.cells #[.int .i64 id, v] 36)).alloc (.cells #[.int .i64 id2, u] 36)) := ((Below.refl _ w).alloc (Nat.le_refl _) _).alloc (by simp [World.size_alloc]) _
  have I1 := Lib.hid (ints_below h hb)
  have I2 := Lib.hid (ints_below g hb)
  by_cases he : id = id2
  · subst he
    have HA : Hid (rowLess (id, xs) (id, ys) = lessL xs ys) := Lib.hid (by simp [rowLess])
    obtain ⟨a, cap, rfl⟩ := ints_len h
    obtain ⟨a2, cap2, rfl⟩ := ints_len g
    clear h g
    go_enter Tryz.func58, Tryz.ntmps58
    go_wp2_with fail
    refine (HL.out _ I1.out I2.out).mono ?_
    rintro e w2 ⟨rfl, b2⟩
    have b3 := hb.trans (b2.mono hb.size)
    go_wp2
    go_ret
    exact ⟨ret_b HA.out.symm, b3⟩
  · have HA : Hid (rowLess (id, xs) (id2, ys) = decide (id < id2)) := Lib.hid (by simp [rowLess, he])
    have hne : (id != id2) = true := by rw [bne_iff_ne]; exact he
    obtain ⟨a, cap, rfl⟩ := ints_len h
    obtain ⟨a2, cap2, rfl⟩ := ints_len g
    clear h g he
    go_enter Tryz.func58, Tryz.ntmps58
    go_wp2
    go_ret
    exact ⟨ret_b HA.out.symm, hb⟩
end Go.Proofs.YteelgogfpidcdaaGreatDoor
namespace Go.Proofs.YteelgogfpidcdaaGreatDoor
open Go.RowKit
set_option linter.unusedVariables false
set_option linter.unusedSimpArgs false
set_option maxHeartbeats 4000000 in
set_option maxRecDepth 100000 in
theorem l3Copy_any (id : Int) (vv : Value) (xs : List Int) (w : World) (h : Ints w vv xs) (hn : xs.length ≤ 1048576) :
    Calls Tryz.prog 28 #[.agg #[.int .i64 id, vv]] w (FreshRow w (id, xs)) := by
  have H := Lib.hid h
  have HN := Lib.hid hn
  obtain ⟨va, vcap, rfl⟩ := ints_len h
  clear h hn
  go_enter Tryz.func28, Tryz.ntmps28
  go_wp2
  have hh : Below w.heap.size w ((w.alloc (.cells #[.int .i64 id, .slice va xs.length vcap] 36)).alloc (.cells #[.int .i64 0, .slice none 0 0] 36)) := ((Below.refl _ w).alloc (Nat.le_refl _) _).alloc (by simp) _
  have g2 : ((w.alloc (.cells #[.int .i64 id, .slice va xs.length vcap] 36)).alloc (.cells #[.int .i64 0, .slice none 0 0] 36)).heap[w.heap.size + 1]? = some (.cells #[.int .i64 0, .slice none 0 0] 36 (0, 0)) := by
    have := heap_alloc_new (w.alloc (.cells #[.int .i64 id, .slice va xs.length vcap] 36)) (.cells #[.int .i64 0, .slice none 0 0] 36)
    simpa only [World.size_alloc] using this
  have g1 : ((w.alloc (.cells #[.int .i64 id, .slice va xs.length vcap] 36)).alloc (.cells #[.int .i64 0, .slice none 0 0] 36)).heap[w.heap.size]? = some (.cells #[.int .i64 id, .slice va xs.length vcap] 36 (0, 0)) := by
    rw [Below.heap_alloc _ _ _ (by simp)]
    exact heap_alloc_new w _
  have hs : ((w.alloc (.cells #[.int .i64 id, .slice va xs.length vcap] 36)).alloc (.cells #[.int .i64 0, .slice none 0 0] 36)).heap.size = w.heap.size + 2 := by simp [World.size_alloc]
  generalize ((w.alloc (.cells #[.int .i64 id, .slice va xs.length vcap] 36)).alloc (.cells #[.int .i64 0, .slice none 0 0] 36)) = W at *
  have b0 := box_cells g1 (Below.refl _ W)
  refine wp_region_held_drew (S := fun w' => w'.cell? ⟨w.heap.size, 0, none⟩ = some (.int .i64 id) ∧ w'.cell? ⟨w.heap.size, 1, none⟩ = some (.slice va xs.length vcap)) (by kernel_rfl) ⟨b0.1, b0.2⟩ (fun hHeld => ?_)
  refine take_runs (i := 0) (v := ?_) (by simp only [List.getElem?_toArray, List.getElem?_cons_succ, List.getElem?_cons_zero]; rfl) (by kernel_rfl) (by kernel_rfl) (by kernel_rfl) rfl (by exact fun _ _ _ h => h) (by rfl) ?_ (by assumption) ?_
  rotate_left
  · intro w hSw; (try dsimp only at hSw); go_simp; try (with_reducible rfl)
  try simp only [Act.put, List.setIfInBounds_toArray, List.set_cons_zero, List.set_cons_succ]
  refine take_runs (i := 1) (v := ?_) (by simp only [List.getElem?_toArray, List.getElem?_cons_succ, List.getElem?_cons_zero]; rfl) (by kernel_rfl) (by kernel_rfl) (by kernel_rfl) rfl (by exact fun _ _ _ h => h) (by rfl) ?_ (by assumption) ?_
  rotate_left
  · intro w hSw; (try dsimp only at hSw); go_simp; try (with_reducible rfl)
  try simp only [Act.put, List.setIfInBounds_toArray, List.set_cons_zero, List.set_cons_succ]
  refine take_runs (i := 3) (v := ?_) (by simp only [List.getElem?_toArray, List.getElem?_cons_succ, List.getElem?_cons_zero]; rfl) (by kernel_rfl) (by kernel_rfl) (by kernel_rfl) rfl (by exact fun _ _ _ h => h) (by rfl) ?_ (by assumption) ?_
  rotate_left
  · intro w hSw; (try dsimp only at hSw); go_simp; try (with_reducible rfl)
  try simp only [Act.put, List.setIfInBounds_toArray, List.set_cons_zero, List.set_cons_succ]
  refine take_runs (i := 4) (v := ?_) (by simp only [List.getElem?_toArray, List.getElem?_cons_succ, List.getElem?_cons_zero]; rfl) (by kernel_rfl) (by kernel_rfl) (by kernel_rfl) rfl (by exact fun _ _ _ h => h) (by rfl) ?_ (by assumption) ?_
  rotate_left
  · intro w hSw; (try dsimp only at hSw); go_simp; try (with_reducible rfl)
  try simp only [Act.put, List.setIfInBounds_toArray, List.set_cons_zero, List.set_cons_succ]
  refine wpAnyH_ready (rs := [2]) (by kernel_rfl) (by simp) ?_
  refine AllReadyH.cons (o := _) (by simp only [List.getElem?_toArray, List.getElem?_cons_succ, List.getElem?_cons_zero]; rfl) (fun K hK => ?_) AllReadyH.nil
  go_simp
  have bA : Below W.heap.size W (W.alloc (.cells #[] 3)).drew := below_drew ((Below.refl _ W).alloc (Nat.le_refl _) _)
  have oA : OwnsN (W.alloc (.cells #[] 3)).drew W.heap.size (.slice (some ⟨w.heap.size + 2, 0, none⟩) 0 0) [] := by
    rw [← hs]
    exact World.ownsRow.drew (ownsN_lit W W.heap.size (Nat.le_refl _) #[] 0 [] rfl rfl (by unfold maxLen; omega))
  generalize (W.alloc (.cells #[] 3)).drew = W2 at *
  refine hK.out _ _ (box_cells g1 bA) (fun hHeld2 => ?_)
  clear hK K hHeld
  try simp only [Act.put, List.setIfInBounds_toArray, List.set_cons_zero, List.set_cons_succ]
  have B2 := hh.trans (bA.mono hh.size)
  have I2 := ints_below H.out B2
  refine wpAnyH_ready (rs := [5]) (by kernel_rfl) (by simp) ?_
  refine AllReadyH.cons (o := _) (by simp only [List.getElem?_toArray, List.getElem?_cons_succ, List.getElem?_cons_zero]; rfl) (fun K hK => ?_) AllReadyH.nil
  refine step_append_ints rfl (.tmp 5) (.tmp 7) rfl W.heap.size _ _ [] xs rfl rfl oA I2 bA.size (by have := HN.out; simp; omega) ?_
  intro u W3 oB bB
  rw [List.nil_append] at oB
  obtain ⟨ua, ucap, rfl⟩ := ints_len (ownsN_ints oB)
  have bC := bA.trans bB
  refine hK.out _ _ (box_cells g1 bC) (fun hHeld3 => ?_)
  clear hK K hHeld2
  try simp only [Act.put, List.setIfInBounds_toArray, List.set_cons_zero, List.set_cons_succ]
  refine take_runs (i := 6) (v := ?_) (by simp only [List.getElem?_toArray, List.getElem?_cons_succ, List.getElem?_cons_zero]; rfl) (by kernel_rfl) (by kernel_rfl) (by kernel_rfl) rfl (by exact fun _ _ _ h => h) (by rfl) ?_ (by assumption) ?_
  rotate_left
  · intro w hSw; (try dsimp only at hSw); go_simp; try (with_reducible rfl)
  try simp only [Act.put, List.setIfInBounds_toArray, List.set_cons_zero, List.set_cons_succ]
  have k2 := (bC.block (w.heap.size + 1) (by omega)).trans g2
  have c0 := cell_of_row W3 _ 0 _ _ _ k2
  have c1 := cell_of_row W3 _ 1 _ _ _ k2
  have f0 := frozen_of_row W3 _ 0 _ _ k2
  have f1 := frozen_of_row W3 _ 1 _ _ k2
  simp at c0 c1
  refine wpAnyH_ready (rs := [7]) (by kernel_rfl) (by simp) ?_
  refine AllReadyH.cons (o := _) (by simp only [List.getElem?_toArray, List.getElem?_cons_succ, List.getElem?_cons_zero]; rfl) (fun K hK => ?_) AllReadyH.nil
  go_simp
  have k0 := (bC.block w.heap.size (by omega)).trans g1
  have m0 := (heap_setCell_other (W3.setCell ⟨w.heap.size + 1, 0, none⟩ (.int .i64 id)) ⟨w.heap.size + 1, 1, none⟩ w.heap.size (.slice ua xs.length ucap) (by simp)).trans ((heap_setCell_other W3 ⟨w.heap.size + 1, 0, none⟩ w.heap.size (.int .i64 id) (by simp)).trans k0)
  have r1 := heap_setCell_same W3 (w.heap.size + 1) 0 _ _ (.int .i64 id) k2
  have r2 := heap_setCell_same _ (w.heap.size + 1) 1 _ _ (.slice ua xs.length ucap) r1
  have o4 := ownsN_low (ownsN_low oB (b := w.heap.size + 1) (by omega) 0 (.int .i64 id)) (b := w.heap.size + 1) (by omega) 1 (.slice ua xs.length ucap)
  have B4 := ((hh.trans (bC.mono hh.size)).setCell (p := ⟨w.heap.size + 1, 0, none⟩) (by simp) (.int .i64 id)).setCell (p := ⟨w.heap.size + 1, 1, none⟩) (by simp) (.slice ua xs.length ucap)
  have e0 := cell_of_row _ _ 0 _ _ _ r2
  have e1 := cell_of_row _ _ 1 _ _ _ r2
  simp at e0 e1
  clear r1 r2 k0 k2 c0 c1 f0 f1
  generalize (W3.setCell ⟨w.heap.size + 1, 0, none⟩ (.int .i64 id)).setCell ⟨w.heap.size + 1, 1, none⟩ (.slice ua xs.length ucap) = W4 at *
  refine hK.out _ _ (box_cells m0 (Below.refl _ W4)) (fun hHeld4 => ?_)
  clear hK K hHeld3
  try simp only [Act.put, List.setIfInBounds_toArray, List.set_cons_zero, List.set_cons_succ]
  refine wpAnyH_done (by kernel_rfl) ?_ _
  go_wp2
  refine bodyPost_ret (v := .agg #[.int .i64 id, .slice ua xs.length ucap]) ?_ rfl ?_
  · simp [results, Tryz.f28, go_sem, e0, e1]
  · exact ⟨_, rfl, ownsN_up o4 (by omega), B4⟩
end Go.Proofs.YteelgogfpidcdaaGreatDoor
namespace Go.Proofs.YteelgogfpidcdaaGreatDoor
open Go.RowKit
set_option linter.unusedVariables false
/-- The slice v owns the rows rs, the values of row j in the slice vs j. -/
def OwnsV (w : World) (B : Nat) (v : Value) (rs : List RowD) (vs : Nat → Value) : Prop :=
  ∃ (cs : List Value), w.ownsRow B 36 2 v rs.length cs ∧
    (∀ j, j < rs.length → cs[j * 2]? = some (.int .i64 (rs.getD j (0, [])).1) ∧ cs[j * 2 + 1]? = some (vs j) ∧ OwnsN w B (vs j) (rs.getD j (0, [])).2 ∧ ∀ b, (vs j).ownBlock = some b → v.ownBlock ≠ some b) ∧
    ∀ i j, i < rs.length → j < rs.length → i ≠ j → ∀ b, (vs i).ownBlock = some b → (vs j).ownBlock ≠ some b
theorem ownsV_of {w : World} {B : Nat} {v : Value} {rs : List RowD} (h : OwnsR w B v rs) : ∃ vs, OwnsV w B v rs vs := by
  obtain ⟨cs, vs, h⟩ := h
  exact ⟨vs, cs, h⟩
theorem ownsR_of {w : World} {B : Nat} {v : Value} {rs : List RowD} {vs : Nat → Value} (h : OwnsV w B v rs vs) : OwnsR w B v rs := by
  obtain ⟨cs, h⟩ := h
  exact ⟨cs, vs, h⟩
/-- Only blocks from B up to hi have turned. -/
structure Only (B hi : Nat) (w w' : World) : Prop where
  os : w'.os = w.os
  tape : w'.tape = w.tape
  output : w'.output = w.output
  size : w.heap.size ≤ w'.heap.size
  block : ∀ k, k < w.heap.size → (k < B ∨ hi ≤ k) → w'.heap[k]? = w.heap[k]?
theorem Only.refl (B hi : Nat) (w : World) : Only B hi w w := ⟨rfl, rfl, rfl, Nat.le_refl _, fun _ _ _ => rfl⟩
theorem Only.trans {B hi : Nat} {a b c : World} (h : Only B hi a b) (k : Only B hi b c) : Only B hi a c :=
  ⟨k.os.trans h.os, k.tape.trans h.tape, k.output.trans h.output, Nat.le_trans h.size k.size, fun i hi' hn => (k.block i (Nat.lt_of_lt_of_le hi' h.size) hn).trans (h.block i hi' hn)⟩
theorem only_grown {B hi : Nat} {w w' : World} {row : Option Nat} (h : w.grownBy w' row) (hr : ∀ b, row = some b → B ≤ b ∧ b < hi) : Only B hi w w' :=
  ⟨h.os, h.tape, h.output, h.size, fun k hk hn => h.block k hk (fun e => by have := hr k e.symm; omega)⟩
theorem only_below {B hi C : Nat} {a w w' : World} (h : Below C a w) (k : Only B hi w w') (hC : C ≤ B) (hs : C ≤ w.heap.size) : Below C a w' :=
  h.trans ⟨k.os, k.tape, k.output, k.size, fun i hi' => k.block i (by omega) (Or.inl (by omega))⟩
/-- What is owned beside the range stays. -/
theorem ownsR_only {B hi C : Nat} {w w' : World} {v : Value} {rs : List RowD} (h : OwnsR w C v rs) (k : Only B hi w w') (hc : hi ≤ C) : OwnsR w' C v rs := by
  obtain ⟨cs, vs, h1, h2, h3⟩ := h
  have hk : ∀ {e : TypeId} {size : Nat} {u : Value} {n : Nat} {xs : List Value}, w.ownsRow C e size u n xs → w'.ownsRow C e size u n xs := by
    intro e size u n xs hu
    refine ⟨hu.1, ?_⟩
    rcases hu.2 with hn | ⟨g, cap, cur, rfl, hb', hg, rest⟩
    · exact .inl hn
    · refine .inr ⟨g, cap, cur, rfl, hb', ?_, rest⟩
      rw [k.block g (Array.getElem?_eq_some_iff.1 hg).1 (Or.inr (by omega))]
      exact hg
  exact ⟨cs, vs, hk h1, fun j hj => ⟨(h2 j hj).1, (h2 j hj).2.1, hk (h2 j hj).2.2.1, (h2 j hj).2.2.2⟩, h3⟩
/-- What reads in blocks below B reads so. -/
theorem rowsR_only {B hi : Nat} {W w w' : World} {v : Value} {rs : List RowD} (h : RowsR W v rs) (hb : Below W.heap.size W w) (k : Only B hi w w') (hB : W.heap.size ≤ B) : RowsR w' v rs :=
  rowsR_below h (only_below hb k hB hb.size)
/-- The mark of row j. -/
def mkAt (rs : List RowD) (k : Int) (j : Nat) : Int := k + (j : Int) + ((((rs.take j).map fun r => r.2.length).sum : Nat) : Int)
def mRow (rs : List RowD) (k : Int) (j : Nat) : RowD := (mkAt rs k j, marks (mkAt rs k j + 1) (rs.getD j (0, [])).2.length)
def markTo (rs : List RowD) (k : Int) (j : Nat) : List RowD := (List.range j).map (mRow rs k) ++ rs.drop j
def mRows (rs : List RowD) (k : Int) : List RowD := (List.range rs.length).map (mRow rs k)
theorem mkAt_zero (rs : List RowD) (k : Int) : mkAt rs k 0 = k := by simp [mkAt]
theorem mkAt_step {rs : List RowD} {k : Int} {j : Nat} (hj : j < rs.length) : mkAt rs k (j + 1) = mkAt rs k j + 1 + ((rs.getD j (0, [])).2.length : Int) := by
  unfold mkAt
  have e : rs.getD j (0, []) = rs[j] := by simp [List.getD, hj]
  rw [e, List.take_succ_eq_append_getElem hj, List.map_append, List.sum_append]
  simp; omega
theorem mkAt_range {rs : List RowD} {k : Int} {j : Nat} (hs : szL rs ≤ 1048576) (hj : j ≤ rs.length) : k ≤ mkAt rs k j ∧ mkAt rs k j ≤ k + 1048576 := by
  have h1 := szTo_le hj
  unfold szTo at h1
  unfold mkAt
  omega
theorem markTo_len {rs : List RowD} {k : Int} {j : Nat} (hj : j ≤ rs.length) : (markTo rs k j).length = rs.length := by simp [markTo]; omega
theorem markTo_at {rs : List RowD} {k : Int} {j : Nat} (hj : j < rs.length) : (markTo rs k j).getD j (0, []) = rs.getD j (0, []) := by
  unfold markTo
  simp only [List.getD]
  rw [List.getElem?_append_right (by simp), List.getElem?_drop]
  simp
theorem markTo_step {rs : List RowD} {k : Int} {j : Nat} (hj : j < rs.length) : (markTo rs k j).set j (mRow rs k j) = markTo rs k (j + 1) := by
  unfold markTo
  rw [List.set_append_right _ _ (by simp), List.drop_eq_getElem_cons hj, List.range_succ, List.map_append]
  simp only [List.length_map, List.length_range, Nat.sub_self, List.set_cons_zero, List.map_cons, List.map_nil, List.append_assoc, List.cons_append, List.nil_append]
theorem markTo_all (rs : List RowD) (k : Int) : markTo rs k rs.length = mRows rs k := by simp [markTo, mRows]
theorem markTo_zero (rs : List RowD) (k : Int) : markTo rs k 0 = rs := by simp [markTo]
/-- Row j is marked: its number is stored, and its values are turned within their own block. -/
theorem ownsV_mark {w w2 : World} {B g n cap : Nat} {rs : List RowD} {vs : Nat → Value} (h : OwnsV w B (.slice (some ⟨g, 0, none⟩) n cap) rs vs) {j : Nat} (hj : j < rs.length) (m : Int) {ys : List Int}
    (hg : (w.setCell ⟨g, j * 2, none⟩ (.int .i64 m)).grownBy w2 (vs j).ownBlock) (ho : OwnsN w2 B (vs j) ys) : OwnsV w2 B (.slice (some ⟨g, 0, none⟩) n cap) (rs.set j (m, ys)) vs := by
  obtain ⟨cs, h1, h2, h3⟩ := h
  have hn : n = rs.length := by
    rcases h1.2 with ⟨h', _⟩ | ⟨_, _, _, h', _⟩
    · simp at h'
    · simp only [Value.slice.injEq] at h'; exact h'.2.1
  subst hn
  have hcl : cs.length = rs.length * 2 := h1.1
  have s1 := (World.ownsRow.stored h1 (j * 2) (.int .i64 m)).1
  have hgv : (Value.slice (some ⟨g, 0, none⟩) rs.length cap).ownBlock = some g := rfl
  have hne : (vs j).ownBlock ≠ some g := fun e => (h2 j hj).2.2.2 g e hgv
  have s2 := s1.kept hg (Or.inr (by rw [hgv]; exact fun e => hne e.symm))
  refine ⟨cs.set (j * 2) (.int .i64 m), by rw [List.length_set]; exact s2, ?_, ?_⟩
  · intro i hi
    rw [List.length_set] at hi
    obtain ⟨g1, g2, g3, g4⟩ := h2 i hi
    by_cases e : i = j
    · subst e
      have er : (rs.set i ((m, ys) : RowD)).getD i (0, []) = (m, ys) := by simp [List.getD, hi]
      rw [er]
      exact ⟨by rw [List.getElem?_set_self (by omega)], by rw [List.getElem?_set_ne (by omega)]; exact g2, ho, g4⟩
    · have er : (rs.set j ((m, ys) : RowD)).getD i (0, []) = rs.getD i (0, []) := by simp [List.getD, List.getElem?_set_ne (Ne.symm e)]
      rw [er]
      refine ⟨by rw [List.getElem?_set_ne (by omega)]; exact g1, by rw [List.getElem?_set_ne (by omega)]; exact g2, ?_, g4⟩
      have hp1 : (vs i).ownBlock = none ∨ (vs i).ownBlock ≠ some g := by
        cases eb : (vs i).ownBlock with
        | none => exact Or.inl rfl
        | some b => exact Or.inr (fun q => g4 b eb (by rw [hgv, q]))
      have hp2 : (vs i).ownBlock = none ∨ (vs i).ownBlock ≠ (vs j).ownBlock := by
        cases eb : (vs i).ownBlock with
        | none => exact Or.inl rfl
        | some b => exact Or.inr (fun q => h3 i j hi hj e b eb q.symm)
      exact (World.ownsRow.kept g3 (grow_set w g (j * 2) _) hp1).kept hg hp2
  · intro i i' hi hi' hii b hb
    rw [List.length_set] at hi hi'
    exact h3 i i' hi hi' hii b hb
end Go.Proofs.YteelgogfpidcdaaGreatDoor
namespace Go.Proofs.YteelgogfpidcdaaGreatDoor
open Go.RowKit
set_option linter.unusedVariables false
theorem ownsR_form {w : World} {B : Nat} {v : Value} {rs : List RowD} (h : OwnsR w B v rs) : (v = .slice none 0 0 ∧ rs = []) ∨ ∃ g cap, v = .slice (some ⟨g, 0, none⟩) rs.length cap ∧ B ≤ g ∧ g < w.heap.size := by
  obtain ⟨cs, vs, h1, _⟩ := h
  have h1' := h1
  rcases h1.2 with ⟨rfl, h0⟩ | ⟨g, cap, cur, rfl, hb, hg, _⟩
  · exact Or.inl ⟨rfl, List.eq_nil_of_length_eq_zero h0⟩
  · exact Or.inr ⟨g, cap, rfl, hb, (Array.getElem?_eq_some_iff.1 hg).1⟩
theorem ownsV_cells {w : World} {B g n cap : Nat} {rs : List RowD} {vs : Nat → Value} (h : OwnsV w B (.slice (some ⟨g, 0, none⟩) n cap) rs vs) {j : Nat} (hj : j < rs.length) :
    w.cell? ⟨g, j * 2, none⟩ = some (.int .i64 (rs.getD j (0, [])).1) ∧ w.cell? ⟨g, j * 2 + 1, none⟩ = some (vs j) ∧ w.frozen? ⟨g, j * 2, none⟩ = false ∧ OwnsN w B (vs j) (rs.getD j (0, [])).2 ∧ (vs j).ownBlock ≠ some g := by
  obtain ⟨cs, h1, h2, _⟩ := h
  obtain ⟨g1, g2, g3, g4⟩ := h2 j hj
  have hn : n = rs.length := by
    rcases h1.2 with ⟨h', _⟩ | ⟨_, _, _, h', _⟩
    · simp at h'
    · simp only [Value.slice.injEq] at h'; exact h'.2.1
  subst hn
  exact ⟨(World.ownsRow.cellAt h1 (j * 2) (by omega)).trans g1, (World.ownsRow.cellAt h1 (j * 2 + 1) (by omega)).trans g2, World.ownsRow.frozenAt h1 _, g3, fun e => g4 g e rfl⟩
theorem ownsV_below {w w' : World} {B : Nat} {v : Value} {rs : List RowD} {vs : Nat → Value} (h : OwnsV w B v rs vs) (hb : Below w.heap.size w w') : OwnsV w' B v rs vs := by
  obtain ⟨cs, h1, h2, h3⟩ := h
  exact ⟨cs, ownsRow_below h1 hb, fun j hj => ⟨(h2 j hj).1, (h2 j hj).2.1, ownsN_below (h2 j hj).2.2.1 hb, (h2 j hj).2.2.2⟩, h3⟩
theorem ownsV_bound {w : World} {B : Nat} {v : Value} {rs : List RowD} {vs : Nat → Value} (h : OwnsV w B v rs vs) : (∀ j, j < rs.length → ∀ b, (vs j).ownBlock = some b → b < w.heap.size) ∧ ∀ b, v.ownBlock = some b → b < w.heap.size := by
  obtain ⟨cs, h1, h2, _⟩ := h
  exact ⟨fun j hj b hb => ((h2 j hj).2.2.1.lt b hb).2, fun b hb => (h1.lt b hb).2⟩
theorem ownsV_only {B hi C : Nat} {w w' : World} {v : Value} {rs : List RowD} {vs : Nat → Value} (h : OwnsV w C v rs vs) (k : Only B hi w w') (hc : hi ≤ C) : OwnsV w' C v rs vs := by
  obtain ⟨cs, h1, h2, h3⟩ := h
  have hk : ∀ {e : TypeId} {size : Nat} {u : Value} {n : Nat} {xs : List Value}, w.ownsRow C e size u n xs → w'.ownsRow C e size u n xs := by
    intro e size u n xs hu
    refine ⟨hu.1, ?_⟩
    rcases hu.2 with hn | ⟨g, cap, cur, rfl, hb', hg, rest⟩
    · exact .inl hn
    · refine .inr ⟨g, cap, cur, rfl, hb', ?_, rest⟩
      rw [k.block g (Array.getElem?_eq_some_iff.1 hg).1 (Or.inr (by omega))]
      exact hg
  exact ⟨cs, hk h1, fun j hj => ⟨(h2 j hj).1, (h2 j hj).2.1, hk (h2 j hj).2.2.1, (h2 j hj).2.2.2⟩, h3⟩
theorem ownsN_only {B hi C : Nat} {w w' : World} {v : Value} {xs : List Int} (h : OwnsN w C v xs) (k : Only B hi w w') (hc : hi ≤ C) : OwnsN w' C v xs := by
  refine ⟨h.1, ?_⟩
  rcases h.2 with hn | ⟨g, cap, cur, rfl, hb', hg, rest⟩
  · exact .inl hn
  · refine .inr ⟨g, cap, cur, rfl, hb', ?_, rest⟩
    rw [k.block g (Array.getElem?_eq_some_iff.1 hg).1 (Or.inr (by omega))]
    exact hg
theorem mRows_len (rs : List RowD) (k : Int) : (mRows rs k).length = rs.length := by simp [mRows]
theorem mRows_at {rs : List RowD} {k : Int} {j : Nat} (hj : j < rs.length) : (mRows rs k).getD j (0, []) = (mkAt rs k j, marks (mkAt rs k j + 1) (rs.getD j (0, [])).2.length) := by
  simp [mRows, List.getD, hj, mRow]
end Go.Proofs.YteelgogfpidcdaaGreatDoor
namespace Go.Proofs.YteelgogfpidcdaaGreatDoor
open Go.RowKit
set_option linter.unusedVariables false
/-- Where the row r goes among the first k rows. -/
def insAt (rs : List RowD) (r : RowD) : Nat → Nat
  | 0 => 0
  | k + 1 => if rowLess r (rs.getD k (0, [])) then insAt rs r k else k + 1
def insL (rs : List RowD) (r : RowD) : List RowD := rs.take (insAt rs r rs.length) ++ r :: rs.drop (insAt rs r rs.length)
def sortTo (a : List RowD) (k : Nat) : List RowD := (a.take k).foldl insL []
def sortL (a : List RowD) : List RowD := a.foldl insL []
theorem sortTo_step {a : List RowD} {k : Nat} (hk : k < a.length) : sortTo a (k + 1) = insL (sortTo a k) (a.getD k (0, [])) := by
  unfold sortTo
  rw [List.take_succ_eq_append_getElem hk, List.foldl_append]
  simp [List.getD, hk]
theorem sortTo_all (a : List RowD) : sortTo a a.length = sortL a := by simp [sortTo, sortL]
theorem insAt_le (rs : List RowD) (r : RowD) (k : Nat) : insAt rs r k ≤ k := by
  induction k with
  | zero => exact Nat.le_refl _
  | succ k ih => unfold insAt; split <;> omega
theorem insL_perm (rs : List RowD) (r : RowD) : (insL rs r).Perm (r :: rs) := by
  unfold insL
  refine List.perm_middle.trans ?_
  rw [List.take_append_drop]
theorem foldl_perm (a : List RowD) : ∀ acc, (a.foldl insL acc).Perm (a ++ acc) := by
  induction a with
  | nil => intro acc; exact List.Perm.refl _
  | cons r a ih =>
    intro acc
    refine (ih (insL acc r)).trans ?_
    refine (List.Perm.append_left a (insL_perm acc r)).trans ?_
    exact List.perm_middle
theorem sortL_perm (a : List RowD) : (sortL a).Perm a := by have := foldl_perm a []; rw [List.append_nil] at this; exact this
theorem szL_perm {a b : List RowD} (h : a.Perm b) : szL a = szL b := by
  unfold szL szTo
  rw [List.take_length, List.take_length, h.length_eq]
  have := (h.map (fun r : RowD => r.2.length)).sum_nat
  rw [this]
theorem szL_sort (a : List RowD) (h : szL a ≤ 1048576) : szL (sortL a) ≤ 1048576 := by rw [szL_perm (sortL_perm a)]; exact h
theorem sortTo_perm (a : List RowD) (k : Nat) : (sortTo a k).Perm (a.take k) := by have := foldl_perm (a.take k) []; rw [List.append_nil] at this; exact this
theorem sortTo_len {a : List RowD} {k : Nat} (hk : k ≤ a.length) : (sortTo a k).length = k := by rw [(sortTo_perm a k).length_eq, List.length_take]; omega
theorem sortTo_sz {a : List RowD} {k : Nat} (hs : szL a ≤ 1048576) (hk : k ≤ a.length) : szL (sortTo a k) ≤ 1048576 := by
  rw [szL_perm (sortTo_perm a k)]
  have h1 := szTo_le hk
  unfold szL szTo at *
  rw [List.take_take, List.length_take, show min (min k a.length) k = k by omega]
  omega
/-- The cells of a slice of rows that the call made. -/
def RowsC (w : World) (B : Nat) (v : Value) (n : Nat) (cs : List Value) : Prop := w.ownsRow B 36 2 v n cs
theorem info_row : ∃ i, Tryz.prog.info? 36 = some i ∧ i.zero = some (.agg #[.int .i64 0, .slice none 0 0]) ∧ i.size = 2 ∧ i.bytes = 32 := by
  have h1 := Tryz.infoRow
  have h2 := row_bytes
  cases e : Tryz.prog.info? 36 with
  | none => rw [e] at h1; simp at h1
  | some i => rw [e] at h1 h2; simp at h1 h2; exact ⟨i, rfl, h1.1, h1.2, h2⟩
/-- 'append(x, ..)' of m rows whose cells lie at ad. -/
theorem append_rows {w : World} {ops : Array Oper} {rest : List Oper} {o : Oper} {a : Act} {Q : Exit → Act → World → Prop} (hgd : o.guard = none) (s x : Operand)
    (ho : o.op = .call { callee := .builtin .append, args := #[s, x], argTypes := #[28, 28] })
    (B : Nat) (v : Value) (n : Nat) (cs : List Value) (hs : a.eval s = v) (hown : RowsC w B v n cs) (hB : B ≤ w.heap.size)
    (ad : Addr) (m c : Nat) (news : List Value) (hx : a.eval x = .slice (some ad) m c) (hl : news.length = m * 2) (hnews : ∀ j u, news[j]? = some u → w.cell? (ad.add j) = some u) (h1 : ∀ u ∈ news, u.oneCell' = true) (h63 : n + m ≤ 2097152)
    (h : ∀ v' w', RowsC w' B v' (n + m) (cs ++ news) → w.grownBy w' v.ownBlock → (v' = .slice none 0 0 ↔ v = .slice none 0 0 ∧ m = 0) → (v'.ownBlock = v.ownBlock ∨ v'.ownBlock = some w.heap.size) → wpList Tryz.prog ops Q rest (a.put o.dst v') w') : wpList Tryz.prog ops Q (o :: rest) a w := by
  obtain ⟨i0, hi, hz0, hz1, hz2⟩ := info_row
  exact wpList_append_own_at _ hgd s x 28 ho B 36 i0 (.agg #[.int .i64 0, .slice none 0 0]) 2 32 Tryz.underlying28 hi hz0 hz1 hz2 rfl (by decide) v n cs hs hown ad m c news hx hl hnews h1 (by unfold maxLen; omega) (by omega) hB h
theorem rowsC_kept {w w' : World} {B : Nat} {v : Value} {n : Nat} {cs : List Value} (h : RowsC w B v n cs) (hb : Below w.heap.size w w') : RowsC w' B v n cs := ownsRow_below h hb
end Go.Proofs.YteelgogfpidcdaaGreatDoor
namespace Go.Proofs.YteelgogfpidcdaaGreatDoor
open Go.RowKit
set_option linter.unusedVariables false
theorem mid_low {α : Type} {cs : List α} {p i : Nat} {x y : α} (hp : p * 2 ≤ cs.length) (hi : i < p * 2) : (cs.take (p * 2) ++ [x, y] ++ cs.drop (p * 2))[i]? = cs[i]? := by
  have hl : (cs.take (p * 2)).length = p * 2 := by rw [List.length_take]; omega
  rw [List.append_assoc, List.getElem?_append_left (by omega), List.getElem?_take, if_pos hi]
theorem mid_at {α : Type} {cs : List α} {p : Nat} {x y : α} (hp : p * 2 ≤ cs.length) : (cs.take (p * 2) ++ [x, y] ++ cs.drop (p * 2))[p * 2]? = some x ∧ (cs.take (p * 2) ++ [x, y] ++ cs.drop (p * 2))[p * 2 + 1]? = some y := by
  have hl : (cs.take (p * 2)).length = p * 2 := by rw [List.length_take]; omega
  constructor
  · rw [List.append_assoc, List.getElem?_append_right (by omega), hl]
    simp
  · rw [List.append_assoc, List.getElem?_append_right (by omega), hl]
    simp
theorem mid_high {α : Type} {cs : List α} {p i : Nat} {x y : α} (hp : p * 2 ≤ cs.length) (hi : p * 2 + 2 ≤ i) : (cs.take (p * 2) ++ [x, y] ++ cs.drop (p * 2))[i]? = cs[i - 2]? := by
  have hl : (cs.take (p * 2)).length = p * 2 := by rw [List.length_take]; omega
  have hl2 : (cs.take (p * 2) ++ [x, y]).length = p * 2 + 2 := by rw [List.length_append, hl]; rfl
  rw [List.getElem?_append_right (by omega), hl2, List.getElem?_drop]
  congr 1
  omega
theorem row_low {rs : List RowD} {p j : Nat} {r : RowD} (hp : p ≤ rs.length) (hj : j < p) : (rs.take p ++ r :: rs.drop p).getD j (0, []) = rs.getD j (0, []) := by
  have hl : (rs.take p).length = p := by rw [List.length_take]; omega
  simp only [List.getD]
  rw [List.getElem?_append_left (by omega), List.getElem?_take, if_pos hj]
theorem row_at {rs : List RowD} {p : Nat} {r : RowD} (hp : p ≤ rs.length) : (rs.take p ++ r :: rs.drop p).getD p (0, []) = r := by
  have hl : (rs.take p).length = p := by rw [List.length_take]; omega
  simp only [List.getD]
  rw [List.getElem?_append_right (by omega), hl, Nat.sub_self]
  rfl
theorem row_high {rs : List RowD} {p j : Nat} {r : RowD} (hp : p ≤ rs.length) (hj : p < j) : (rs.take p ++ r :: rs.drop p).getD j (0, []) = rs.getD (j - 1) (0, []) := by
  have hl : (rs.take p).length = p := by rw [List.length_take]; omega
  simp only [List.getD]
  rw [List.getElem?_append_right (by omega), hl, show j - p = (j - 1 - p) + 1 by omega, List.getElem?_cons_succ, List.getElem?_drop, show p + (j - 1 - p) = j - 1 by omega]
theorem insert_owns {W w : World} {B p : Nat} {v x3 vv : Value} {rs : List RowD} {vs : Nat → Value} {cs : List Value} {r : RowD} (hp : p ≤ rs.length)
    (h1 : W.ownsRow B 36 2 v rs.length cs)
    (h2 : ∀ j, j < rs.length → cs[j * 2]? = some (.int .i64 (rs.getD j (0, [])).1) ∧ cs[j * 2 + 1]? = some (vs j) ∧ OwnsN W B (vs j) (rs.getD j (0, [])).2 ∧ ∀ b, (vs j).ownBlock = some b → v.ownBlock ≠ some b)
    (h3 : ∀ i j, i < rs.length → j < rs.length → i ≠ j → ∀ b, (vs i).ownBlock = some b → (vs j).ownBlock ≠ some b)
    (hb : Below W.heap.size W w) (hB : B ≤ W.heap.size) (hx : RowsC w W.heap.size x3 (rs.length + 1) (cs.take (p * 2) ++ [.int .i64 r.1, vv] ++ cs.drop (p * 2)))
    (hv : OwnsN w W.heap.size vv r.2) (hne : ∀ b, vv.ownBlock = some b → x3.ownBlock ≠ some b) : OwnsR w B x3 (rs.take p ++ r :: rs.drop p) := by
  have hcl : cs.length = rs.length * 2 := h1.1
  have hlen : (rs.take p ++ r :: rs.drop p).length = rs.length + 1 := by simp; omega
  have hxlt : ∀ b, x3.ownBlock = some b → W.heap.size ≤ b := fun b e => (hx.lt b e).1
  have old : ∀ j, j < rs.length → ∀ b, (vs j).ownBlock = some b → b < W.heap.size := fun j hj b e => ((h2 j hj).2.2.1.lt b e).2
  have new : ∀ b, vv.ownBlock = some b → W.heap.size ≤ b := fun b e => (hv.lt b e).1
  refine ⟨cs.take (p * 2) ++ [.int .i64 r.1, vv] ++ cs.drop (p * 2), fun j => if j < p then vs j else if j = p then vv else vs (j - 1), ?_, ?_, ?_⟩
  · rw [hlen]
    refine ⟨hx.1, ?_⟩
    rcases hx.2 with hn | ⟨g, cap, cur, e, hb', rest⟩
    · exact .inl hn
    · exact .inr ⟨g, cap, cur, e, Nat.le_trans hB hb', rest⟩
  · intro j hj
    rw [hlen] at hj
    by_cases c1 : j < p
    · simp only [if_pos c1]
      obtain ⟨g1, g2, g3, _⟩ := h2 j (by omega)
      rw [row_low hp c1, mid_low (by omega) (by omega), mid_low (by omega) (by omega)]
      exact ⟨g1, g2, ownsN_below g3 hb, fun b e q => by have := hxlt b q; have := old j (by omega) b e; omega⟩
    · by_cases c2 : j = p
      · subst c2
        simp only [Nat.lt_irrefl, if_false, if_true]
        rw [row_at hp]
        have := mid_at (cs := cs) (p := j) (x := Value.int .i64 r.1) (y := vv) (by omega)
        exact ⟨this.1, this.2, ownsN_up hv hB, hne⟩
      · simp only [if_neg c1, if_neg c2]
        obtain ⟨g1, g2, g3, _⟩ := h2 (j - 1) (by omega)
        rw [row_high hp (by omega), mid_high (by omega) (by omega), mid_high (by omega) (by omega), show j * 2 - 2 = (j - 1) * 2 by omega, show j * 2 + 1 - 2 = (j - 1) * 2 + 1 by omega]
        exact ⟨g1, g2, ownsN_below g3 hb, fun b e q => by have := hxlt b q; have := old (j - 1) (by omega) b e; omega⟩
  · intro i j hi hj hij b
    rw [hlen] at hi hj
    by_cases a1 : i < p
    · simp only [if_pos a1]
      intro e
      by_cases c1 : j < p
      · simp only [if_pos c1]; exact h3 i j (by omega) (by omega) hij b e
      · by_cases c2 : j = p
        · simp only [if_neg c1, if_pos c2]
          intro q
          have := new b q; have := old i (by omega) b e; omega
        · simp only [if_neg c1, if_neg c2]; exact h3 i (j - 1) (by omega) (by omega) (by omega) b e
    · by_cases a2 : i = p
      · simp only [if_neg a1, if_pos a2]
        intro e
        have hnb := new b e
        by_cases c1 : j < p
        · simp only [if_pos c1]; intro q; have := old j (by omega) b q; omega
        · by_cases c2 : j = p
          · omega
          · simp only [if_neg c1, if_neg c2]; intro q; have := old (j - 1) (by omega) b q; omega
      · simp only [if_neg a1, if_neg a2]
        intro e
        have hob := old (i - 1) (by omega) b e
        by_cases c1 : j < p
        · simp only [if_pos c1]; exact h3 (i - 1) j (by omega) (by omega) (by omega) b e
        · by_cases c2 : j = p
          · simp only [if_neg c1, if_pos c2]; intro q; have := new b q; omega
          · simp only [if_neg c1, if_neg c2]; exact h3 (i - 1) (j - 1) (by omega) (by omega) (by omega) b e
theorem rows_one {W : World} {B : Nat} {rs : List RowD} {vs : Nat → Value} {cs : List Value} (hl : cs.length = rs.length * 2)
    (h2 : ∀ j, j < rs.length → cs[j * 2]? = some (.int .i64 (rs.getD j (0, [])).1) ∧ cs[j * 2 + 1]? = some (vs j) ∧ OwnsN W B (vs j) (rs.getD j (0, [])).2) : ∀ u ∈ cs, u.oneCell' = true := by
  intro u hu
  obtain ⟨i, hi, rfl⟩ := List.getElem_of_mem hu
  obtain ⟨g1, g2, g3⟩ := h2 (i / 2) (by omega)
  rcases Nat.mod_two_eq_zero_or_one i with e | e
  · have : i / 2 * 2 = i := by omega
    rw [this, List.getElem?_eq_getElem hi] at g1
    rw [Option.some.inj g1]
    rfl
  · have : i / 2 * 2 + 1 = i := by omega
    rw [this, List.getElem?_eq_getElem hi] at g2
    rw [Option.some.inj g2]
    obtain ⟨a, c, e⟩ := ints_len (ownsN_ints g3)
    rw [e]
    rfl
theorem rows_cells {W w : World} {B g k cp : Nat} {cs : List Value} (h1 : W.ownsRow B 36 2 (.slice (some ⟨g, 0, none⟩) k cp) k cs) (hb : Below W.heap.size W w) : ∀ j u, cs[j]? = some u → w.cell? ((⟨g, 0, none⟩ : Addr).add j) = some u := by
  intro j u hj
  have hl := (List.getElem?_eq_some_iff.1 hj).1
  have hcl : cs.length = k * 2 := h1.1
  rw [Go.WideShapes.add_plain, Nat.zero_add]
  exact (hb.cell (p := ⟨g, j, none⟩) (h1.lt g rfl).2).trans ((World.ownsRow.cellAt h1 j (by omega)).trans hj)
end Go.Proofs.YteelgogfpidcdaaGreatDoor
namespace Go.Proofs.YteelgogfpidcdaaGreatDoor
open Go.RowKit
set_option linter.unusedVariables false
set_option linter.unusedSimpArgs false
theorem insAt_down {rs : List RowD} {r : RowD} {m : Nat} (h : rowLess r (rs.getD m (0, [])) = true) : insAt rs r (m + 1) = insAt rs r m := by
  simp only [insAt, h, if_true]
theorem insAt_stop {rs : List RowD} {r : RowD} {m : Nat} (h : rowLess r (rs.getD m (0, [])) = false) : insAt rs r (m + 1) = m + 1 := by
  simp only [insAt, h]
  rfl
theorem ownsR_empty (w : World) : OwnsR (w.alloc (.cells #[] 36)) w.heap.size (.slice (some ⟨w.heap.size, 0, none⟩) 0 0) [] := by
  refine ⟨[], fun _ => .slice none 0 0, ?_, fun j hj => by simp at hj, fun i j hi => by simp at hi⟩
  exact World.ownsRow_lit (e := 36) (size := 2) w #[] 0 (Nat.le_refl _) (by unfold maxLen; omega) rfl
theorem rowsC_form {w : World} {B : Nat} {v : Value} {n : Nat} {cs : List Value} (h : RowsC w B v n cs) (hn : 0 < n) : ∃ g cap, v = .slice (some ⟨g, 0, none⟩) n cap := by
  rcases h.2 with ⟨_, h0⟩ | ⟨g, cap, cur, hv, _⟩
  · omega
  · exact ⟨g, cap, hv⟩
theorem insert_end {W0 W1 W2 W3 W4 : World} {B p k : Nat} {v x1 x2 x3 vv : Value} {ss : List RowD} {vs : Nat → Value} {cs : List Value} {id : Int} {xs : List Int} {t : TypeId} {C : Array Value} (hp : p ≤ k) (hsl : ss.length = k)
    (h1 : W0.ownsRow B 36 2 v ss.length cs)
    (h2 : ∀ j, j < ss.length → cs[j * 2]? = some (.int .i64 (ss.getD j (0, [])).1) ∧ cs[j * 2 + 1]? = some (vs j) ∧ OwnsN W0 B (vs j) (ss.getD j (0, [])).2 ∧ ∀ b, (vs j).ownBlock = some b → v.ownBlock ≠ some b)
    (h3 : ∀ i j, i < ss.length → j < ss.length → i ≠ j → ∀ b, (vs i).ownBlock = some b → (vs j).ownBlock ≠ some b)
    (hB : B ≤ W0.heap.size) (b1 : W0.heap.size ≤ W1.heap.size) (hx1 : ∀ b, x1.ownBlock = some b → b < W1.heap.size) (oV : OwnsN W2 W1.heap.size vv xs)
    (g2 : (W2.alloc (.cells C t)).grownBy W3 x1.ownBlock) (hat2 : x2.ownBlock = x1.ownBlock ∨ x2.ownBlock = some (W2.heap.size + 1)) {ds : List Value}
    (hb3 : Below W0.heap.size W0 W3) (o2 : RowsC W3 W0.heap.size x2 (p + 1) (cs.take (p * 2) ++ [.int .i64 id, vv])) (g3 : W3.grownBy W4 x2.ownBlock) (hat3 : x3.ownBlock = x2.ownBlock ∨ x3.ownBlock = some W3.heap.size)
    (o3 : RowsC W4 W0.heap.size x3 (p + 1 + (k - p)) ds) (hds : ds = cs.take (p * 2) ++ [.int .i64 id, vv] ++ cs.drop (p * 2)) (hin : insAt ss (id, xs) k = p) :
    OwnsR W4 B x3 (insL ss (id, xs)) ∧ Below W0.heap.size W0 W4 := by
  subst hds
  have b4 : Below W0.heap.size W0 W4 := hb3.trans ((Below.refl W0.heap.size W3).grown g3 hb3.size (fun j hj => (o2.lt j hj).1))
  refine ⟨?_, b4⟩
  have hs2 : (W2.alloc (.cells C t)).heap.size = W2.heap.size + 1 := by simp [World.size_alloc]
  have hs3 := g2.size
  have vlt : ∀ b, vv.ownBlock = some b → W1.heap.size ≤ b ∧ b < W2.heap.size := fun b e => oV.lt b e
  have n1 : vv.ownBlock = none ∨ vv.ownBlock ≠ x1.ownBlock := by
    cases e : vv.ownBlock with
    | none => exact Or.inl rfl
    | some b => exact Or.inr (fun q => by have := hx1 b q.symm; have := (vlt b e).1; omega)
  have n2 : vv.ownBlock = none ∨ vv.ownBlock ≠ x2.ownBlock := by
    rcases hat2 with e | e
    · rw [e]; exact n1
    · cases e' : vv.ownBlock with
      | none => exact Or.inl rfl
      | some b => exact Or.inr (fun q => by rw [e] at q; have := Option.some.inj q; have := (vlt b e').2; omega)
  have v4 : OwnsN W4 W1.heap.size vv xs := World.ownsRow.kept (World.ownsRow.kept (World.ownsRow.alloc oV _) g2 n1) g3 n2
  have hne : ∀ b, vv.ownBlock = some b → x3.ownBlock ≠ some b := by
    intro b e q
    rcases hat3 with e3 | e3
    · rw [e3] at q
      rcases n2 with h | h
      · rw [h] at e; cases e
      · exact h (e.trans q.symm)
    · rw [e3] at q
      have := Option.some.inj q
      have := (vlt b e).2
      omega
  have hpl : p ≤ ss.length := by omega
  have e : p + 1 + (k - p) = ss.length + 1 := by omega
  rw [e] at o3
  have := insert_owns (r := (id, xs)) hpl h1 h2 h3 b4 hB o3 (ownsN_up v4 b1) hne
  unfold insL
  rw [hsl, hin]
  exact this
set_option maxHeartbeats 8000000 in
set_option maxRecDepth 100000 in
theorem specSortRows (v : Value) (rs : List RowD) (w : World) (h : RowsR w v rs) (hs : szL rs ≤ 1048576) :
    Calls Tryz.prog 29 #[v] w (FreshRows w (sortL rs)) := by
  have H := Lib.hid h
  have HS := Lib.hid hs
  have hlen := szL_len hs
  obtain ⟨a, cap, rfl⟩ := rowsR_len h
  clear h hs
  go_enter Tryz.func29, Tryz.ntmps29
  go_wp2
  have o1 := ownsR_empty w
  have b1 : Below w.heap.size w (w.alloc (.cells #[] 36)) := (Below.refl _ w).alloc (Nat.le_refl _) _
  go_loopw [3, 4] (fun o i wr => ∃ (k g cp : Nat), k ≤ rs.length ∧ i = .int .i64 k ∧ o = .slice (some ⟨g, 0, none⟩) k cp ∧ OwnsR wr w.heap.size (.slice (some ⟨g, 0, none⟩) k cp) (sortTo rs k) ∧ Below w.heap.size w wr) (fun _ i _ => rs.length - (intOf i).toNat)
  case atStart => exact ⟨0, _, _, Nat.zero_le _, rfl, rfl, o1, b1⟩
  case round =>
    obtain ⟨k, g, cp, hk, rfl, rfl, hown, hbel⟩ := hrel
    obtain ⟨W0, hW0⟩ : ∃ W0, W0 = wr := ⟨_, rfl⟩
    subst hW0
    clear o1 b1
    by_cases hlt : k < rs.length
    · obtain ⟨b, off, cap', vv, hv, hbl, hc1, hc2, hI⟩ := rowsR_at (rowsR_below H.out hbel) hlt
      simp only [Value.slice.injEq] at hv
      obtain ⟨rfl, _, rfl⟩ := hv
      have hxl := szL_row HS.out hlt
      have hsl := sortTo_len (a := rs) (k := k) hk
      have hsz := sortTo_sz (k := k) HS.out hk
      have HSTEP := Lib.hid (sortTo_step hlt)
      have i1 : (0 : Int) ≤ (k : Int) := by omega
      have i2 : (k : Int) < (rs.length : Int) := by omega
      generalize hss : sortTo rs k = ss at *
      generalize hr : rs.getD k (0, []) = r at *
      obtain ⟨cs, vs, h1, h2, h3⟩ := hown
      have H1 := Lib.hid h1
      have h1k := h1
      rw [hsl] at h1k
      have H1k := Lib.hid h1k
      have H2 := Lib.hid h2
      have H3 := Lib.hid h3
      have hgl := (h1.lt g rfl)
      have HL := Lib.hid (fun (j : Nat) (hj : j < ss.length) => szL_row hsz hj)
      have HLESS := Lib.hid (fun (q : RowD) (u : Value) (w : World) (hI : Ints w vv r.2) (g : Ints w u q.2) (hq : q.2.length ≤ 1048576) => l3Less_any r.1 q.1 vv u r.2 q.2 w hI g hxl hq)
      clear hss hr h1 h2 h3 hsz h1k
      obtain ⟨id, xs⟩ := r
      simp only at hc1 hc2 hI hxl HLESS
      have HI := Lib.hid hI
      go_wp2
      go_loopw [5] (fun q wr2 => ∃ p : Nat, p ≤ k ∧ q = .int .i64 p ∧ Hid (insAt ss (id, xs) p = insAt ss (id, xs) k) ∧ Below W0.heap.size W0 wr2) (fun q _ => (intOf q).toNat)
      case atStart => exact ⟨k, Nat.le_refl _, rfl, Lib.hid rfl, Below.refl _ _⟩
      case round =>
        obtain ⟨p, hp, rfl, hin, hb2⟩ := hrel
        have hc1' := (hb2.cell (p := ⟨b, off + k * 2, none⟩) hbl).trans hc1
        have hc2' := (hb2.cell (p := ⟨b, off + k * 2 + 1, none⟩) hbl).trans hc2
        by_cases hz : p = 0
        · have HP : Hid (insAt ss (id, xs) k = p) := Lib.hid (hin.out.symm.trans (by rw [hz]; rfl))
          have hg : decide ((0 : Int) < (p : Int)) = false := decide_eq_false (by omega)
          have hgn : decide (0 < p) = false := decide_eq_false (by omega)
          clear hz hc1' hc2'
          go_wp2
          refine wp_region_held_drew (S := fun _ => True) (by kernel_rfl) trivial (fun hHeld => ?_)
          refine take_runs (i := 0) (v := ?_) (by simp only [List.getElem?_toArray, List.getElem?_cons_succ, List.getElem?_cons_zero]; rfl) (by kernel_rfl) (by kernel_rfl) (by kernel_rfl) rfl (by exact fun _ _ _ h => h) (by rfl) ?_ (by assumption) ?_
          rotate_left
          · intro w hSw; (try dsimp only at hSw); go_simp; try (with_reducible rfl)
          try simp only [Act.put, List.setIfInBounds_toArray, List.set_cons_zero, List.set_cons_succ]
          refine take_runs (i := 1) (v := ?_) (by simp only [List.getElem?_toArray, List.getElem?_cons_succ, List.getElem?_cons_zero]; rfl) (by kernel_rfl) (by kernel_rfl) (by kernel_rfl) rfl (by exact fun _ _ _ h => h) (by rfl) ?_ (by assumption) ?_
          rotate_left
          · intro w hSw; (try dsimp only at hSw); go_simp; try (with_reducible rfl)
          try simp only [Act.put, List.setIfInBounds_toArray, List.set_cons_zero, List.set_cons_succ]
          refine take_runs (i := 2) (v := ?_) (by simp only [List.getElem?_toArray, List.getElem?_cons_succ, List.getElem?_cons_zero]; rfl) (by kernel_rfl) (by kernel_rfl) (by kernel_rfl) rfl (by exact fun _ _ _ h => h) (by rfl) ?_ (by assumption) ?_
          rotate_left
          · intro w hSw; (try dsimp only at hSw); go_simp; try (with_reducible rfl)
          try simp only [Act.put, List.setIfInBounds_toArray, List.set_cons_zero, List.set_cons_succ]
          refine take_over (i := 3) (by simp only [List.getElem?_toArray, List.getElem?_cons_succ, List.getElem?_cons_zero]; rfl) (by kernel_rfl) (by kernel_rfl) (by kernel_rfl) rfl (by exact fun _ _ _ h => h) (by rfl) (by assumption) ?_
          try simp only [Act.put, List.setIfInBounds_toArray, List.set_cons_zero, List.set_cons_succ]
          refine take_over (i := 4) (by simp only [List.getElem?_toArray, List.getElem?_cons_succ, List.getElem?_cons_zero]; rfl) (by kernel_rfl) (by kernel_rfl) (by kernel_rfl) rfl (by exact fun _ _ _ h => h) (by rfl) (by assumption) ?_
          try simp only [Act.put, List.setIfInBounds_toArray, List.set_cons_zero, List.set_cons_succ]
          refine take_over (i := 5) (by simp only [List.getElem?_toArray, List.getElem?_cons_succ, List.getElem?_cons_zero]; rfl) (by kernel_rfl) (by kernel_rfl) (by kernel_rfl) rfl (by exact fun _ _ _ h => h) (by rfl) (by assumption) ?_
          try simp only [Act.put, List.setIfInBounds_toArray, List.set_cons_zero, List.set_cons_succ]
          refine take_over (i := 6) (by simp only [List.getElem?_toArray, List.getElem?_cons_succ, List.getElem?_cons_zero]; rfl) (by kernel_rfl) (by kernel_rfl) (by kernel_rfl) rfl (by exact fun _ _ _ h => h) (by rfl) (by assumption) ?_
          try simp only [Act.put, List.setIfInBounds_toArray, List.set_cons_zero, List.set_cons_succ]
          refine take_over (i := 7) (by simp only [List.getElem?_toArray, List.getElem?_cons_succ, List.getElem?_cons_zero]; rfl) (by kernel_rfl) (by kernel_rfl) (by kernel_rfl) rfl (by exact fun _ _ _ h => h) (by rfl) (by assumption) ?_
          try simp only [Act.put, List.setIfInBounds_toArray, List.set_cons_zero, List.set_cons_succ]
          refine take_over (i := 8) (by simp only [List.getElem?_toArray, List.getElem?_cons_succ, List.getElem?_cons_zero]; rfl) (by kernel_rfl) (by kernel_rfl) (by kernel_rfl) rfl (by exact fun _ _ _ h => h) (by rfl) (by assumption) ?_
          try simp only [Act.put, List.setIfInBounds_toArray, List.set_cons_zero, List.set_cons_succ]
          refine take_over (i := 9) (by simp only [List.getElem?_toArray, List.getElem?_cons_succ, List.getElem?_cons_zero]; rfl) (by kernel_rfl) (by kernel_rfl) (by kernel_rfl) rfl (by exact fun _ _ _ h => h) (by rfl) (by assumption) ?_
          try simp only [Act.put, List.setIfInBounds_toArray, List.set_cons_zero, List.set_cons_succ]
          refine take_over (i := 10) (by simp only [List.getElem?_toArray, List.getElem?_cons_succ, List.getElem?_cons_zero]; rfl) (by kernel_rfl) (by kernel_rfl) (by kernel_rfl) rfl (by exact fun _ _ _ h => h) (by rfl) (by assumption) ?_
          try simp only [Act.put, List.setIfInBounds_toArray, List.set_cons_zero, List.set_cons_succ]
          refine take_over (i := 11) (by simp only [List.getElem?_toArray, List.getElem?_cons_succ, List.getElem?_cons_zero]; rfl) (by kernel_rfl) (by kernel_rfl) (by kernel_rfl) rfl (by exact fun _ _ _ h => h) (by rfl) (by assumption) ?_
          try simp only [Act.put, List.setIfInBounds_toArray, List.set_cons_zero, List.set_cons_succ]
          refine take_over (i := 12) (by simp only [List.getElem?_toArray, List.getElem?_cons_succ, List.getElem?_cons_zero]; rfl) (by kernel_rfl) (by kernel_rfl) (by kernel_rfl) rfl (by exact fun _ _ _ h => h) (by rfl) (by assumption) ?_
          try simp only [Act.put, List.setIfInBounds_toArray, List.set_cons_zero, List.set_cons_succ]
          refine take_runs (i := 13) (v := ?_) (by simp only [List.getElem?_toArray, List.getElem?_cons_succ, List.getElem?_cons_zero]; rfl) (by kernel_rfl) (by kernel_rfl) (by kernel_rfl) rfl (by exact fun _ _ _ h => h) (by rfl) ?_ (by assumption) ?_
          rotate_left
          · intro w hSw; (try dsimp only at hSw); go_simp; try (with_reducible rfl)
          try simp only [Act.put, List.setIfInBounds_toArray, List.set_cons_zero, List.set_cons_succ]
          refine wpAnyH_done (by kernel_rfl) ?_ _
          have b11 : Below W0.heap.size W0 wr.drew := below_drew hb2
          clear hHeld hg hgn hb2
          generalize wr.drew = w8 at *
          have hkc : k ≤ cp := by
            rcases H1k.out.2 with ⟨hn, _⟩ | ⟨g', cap', cur, e, _, _, hn, _⟩
            · simp at hn
            · simp only [Value.slice.injEq] at e; omega
          have j3 : (0 : Int) ≤ (p : Int) := by omega
          have j4 : (p : Int) ≤ (cp : Int) := by omega
          have j5 : (p : Int) ≤ (k : Int) := by omega
          have hcl : cs.length = k * 2 := H1k.out.1
          have hone := rows_one (by rw [hsl]; exact hcl) (fun j hj => ⟨(H2.out j hj).1, (H2.out j hj).2.1, (H2.out j hj).2.2.1⟩)
          have HONE := Lib.hid hone
          have HCS := Lib.hid (fun w hb => rows_cells H1k.out (w := w) hb)
          have oX0 : RowsC (w8.alloc (.cells #[] 36)) W0.heap.size (.slice (some ⟨w8.heap.size, 0, none⟩) 0 0) 0 [] := World.ownsRow_lit (e := 36) (size := 2) w8 #[] 0 b11.size (by unfold maxLen; omega) rfl
          have bX0 : Below W0.heap.size W0 (w8.alloc (.cells #[] 36)) := b11.alloc b11.size _
          clear hone
          go_wp2_with (at_builtin; refine append_rows rfl (.tmp 32) (.tmp 35) rfl W0.heap.size _ 0 [] rfl oX0 bX0.size ⟨g, 0, none⟩ p cp (cs.take (p * 2)) rfl (by rw [List.length_take]; omega) (fun j u hj => HCS.out _ bX0 j u (by rw [List.getElem?_take] at hj; split at hj; exact hj; cases hj)) (fun u hu => HONE.out u (List.mem_of_mem_take hu)) (by omega) ?_)
          intro x1 W1 oX1 gX1 _ hat1
          have bel1 : Below w8.heap.size w8 W1 := ((Below.refl _ w8).alloc (Nat.le_refl _) _).grown gX1 (by simp) (fun k hk => by simp [Value.ownBlock] at hk; omega)
          have B1 := b11.trans (bel1.mono b11.size)
          have oX1' : RowsC W1 W0.heap.size x1 p (cs.take (p * 2)) := by simpa using oX1
          have hc1w := (B1.cell (p := ⟨b, off + k * 2, none⟩) hbl).trans hc1
          have hc2w := (B1.cell (p := ⟨b, off + k * 2 + 1, none⟩) hbl).trans hc2
          have HI1 := Lib.hid (ints_below HI.out B1)
          have hx1 : Hid (∀ b, x1.ownBlock = some b → b < W1.heap.size) := Lib.hid (fun b e => (oX1'.lt b e).2)
          clear oX1 gX1 oX0 bX0 hat1
          go_wp2_with fail
          refine (l3Copy_any id vv xs W1 HI1.out hxl).mono ?_
          rintro e W2 ⟨uu2, rfl, oV, bel2⟩
          obtain ⟨va, vc, rfl⟩ := ints_len (ownsN_ints oV)
          have B2 := B1.trans (bel2.mono B1.size)
          have oX1b : RowsC (W2.alloc (.cells #[.int .i64 id, .slice va xs.length vc] 36)) W0.heap.size x1 p (cs.take (p * 2)) := World.ownsRow.alloc (rowsC_kept oX1' bel2) _
          have B2a := B2.alloc B2.size (.cells #[.int .i64 id, .slice va xs.length vc] 36)
          clear hc1w hc2w
          go_wp2_with (at_builtin; refine append_rows rfl (.tmp 37) (.tmp 43) rfl W0.heap.size x1 p _ rfl oX1b B2a.size ⟨W2.heap.size, 0, none⟩ 1 1 [.int .i64 id, .slice va xs.length vc] rfl rfl (fun j u hj => by rw [Go.WideShapes.add_plain, Nat.zero_add, cell_lit]; simpa using hj) (by intro u hu; simp at hu; rcases hu with rfl | rfl <;> rfl) (by omega) ?_)
          intro x2 W3 oX2 gX2 _ hat2
          have bel3 := (Below.refl W0.heap.size (W2.alloc (.cells #[.int .i64 id, .slice va xs.length vc] 36))).grown gX2 B2a.size (fun k hk => (oX1b.lt k hk).1)
          have B3 := B2a.trans bel3
          have hdl : (cs.drop (p * 2)).length = (k - p) * 2 := by rw [List.length_drop]; omega
          have HNW := Lib.hid (fun (j : Nat) (u : Value) (hj : (cs.drop (p * 2))[j]? = some u) => show W3.cell? ((⟨g, p * 2, none⟩ : Addr).add j) = some u by
            rw [List.getElem?_drop] at hj
            have := HCS.out W3 B3 (p * 2 + j) u hj
            rw [Go.WideShapes.add_plain, Nat.zero_add] at this
            rw [Go.WideShapes.add_plain]; exact this)
          have oX2' : RowsC W3 W0.heap.size x2 (p + 1) (cs.take (p * 2) ++ [.int .i64 id, .slice va xs.length vc]) := oX2
          by_cases hpc : cp = p
          · have hdn : cs.drop (p * 2) = [] := List.eq_nil_of_length_eq_zero (by omega)
            have hq3 : cp - p = 0 := by omega
            go_wp2_with (at_builtin; refine append_rows rfl (.tmp 45) (.tmp 48) rfl W0.heap.size x2 (p + 1) _ rfl oX2' B3.size ⟨g, 0, none⟩ (k - p) 0 (cs.drop (p * 2)) (by first | rfl | (simp; done)) hdl (fun j u hj => by rw [hdn] at hj; cases hj) (fun u hu => HONE.out u (List.mem_of_mem_drop hu)) (by omega) ?_)
            intro x3 W4 oX3 gX3 _ hat3
            obtain ⟨FO, FB⟩ := insert_end hp hsl H1.out H2.out H3.out hbel.size B1.size hx1.out oV gX2 hat2 B3 oX2' gX3 hat3 oX3 (by simp [hdn]) HP.out
            obtain ⟨g3, cp3, rfl⟩ := rowsC_form oX3 (by omega)
            rw [show p + 1 + (k - p) = k + 1 by omega] at FO
            have FB2 := hbel.trans (FB.mono hbel.size)
            have e9 : p + 1 + (k - p) = k + 1 := by omega
            rw [e9]
            clear oX3 gX3 hat3
            go_wp2
            go_roundw
            case rel => exact ⟨k + 1, g3, cp3, by omega, by go_num, rfl, by rw [HSTEP.out]; exact FO, FB2⟩
            case measure => simp [intOf]; omega
          · have hq2 : ¬ p = cp := fun e => hpc e.symm
            have hq3 : ¬ cp - p = 0 := by omega
            have hq4 : p < cp := by omega
            have hq5 : ¬ cp ≤ p := by omega
            go_wp2_with (at_builtin; refine append_rows rfl (.tmp 45) (.tmp 48) rfl W0.heap.size x2 (p + 1) _ rfl oX2' B3.size ⟨g, p * 2, none⟩ (k - p) (cp - p) (cs.drop (p * 2)) (by first | rfl | (simp; done)) hdl HNW.out (fun u hu => HONE.out u (List.mem_of_mem_drop hu)) (by omega) ?_)
            intro x3 W4 oX3 gX3 _ hat3
            obtain ⟨FO, FB⟩ := insert_end hp hsl H1.out H2.out H3.out hbel.size B1.size hx1.out oV gX2 hat2 B3 oX2' gX3 hat3 oX3 (by simp) HP.out
            obtain ⟨g3, cp3, rfl⟩ := rowsC_form oX3 (by omega)
            rw [show p + 1 + (k - p) = k + 1 by omega] at FO
            have FB2 := hbel.trans (FB.mono hbel.size)
            have e9 : p + 1 + (k - p) = k + 1 := by omega
            rw [e9]
            clear oX3 gX3 hat3
            go_wp2
            go_roundw
            case rel => exact ⟨k + 1, g3, cp3, by omega, by go_num, rfl, by rw [HSTEP.out]; exact FO, FB2⟩
            case measure => simp [intOf]; omega
        · obtain ⟨m, hpm⟩ : ∃ m, p = m + 1 := ⟨p - 1, by omega⟩
          have hms : m < ss.length := by omega
          obtain ⟨q1, q2, q3, _⟩ := H2.out m hms
          have d1 := (hb2.cell (p := ⟨g, m * 2, none⟩) hgl.2).trans ((World.ownsRow.cellAt H1k.out (m * 2) (by omega)).trans q1)
          have d2 := (hb2.cell (p := ⟨g, m * 2 + 1, none⟩) hgl.2).trans ((World.ownsRow.cellAt H1k.out (m * 2 + 1) (by omega)).trans q2)
          have hJ := Lib.hid (ints_below (ownsN_ints q3) hb2)
          have hI2 := Lib.hid (ints_below HI.out hb2)
          have hyl := HL.out m hms
          have HX := Lib.hid (fun w hI g => HLESS.out (ss.getD m (0, [])) (vs m) w hI g hyl)
          have hg : decide ((0 : Int) < (p : Int)) = true := decide_eq_true (by omega)
          have hgn : decide (0 < p) = true := decide_eq_true (by omega)
          have j1 : (0 : Int) ≤ (m : Int) := by omega
          have j2 : (m : Int) < (k : Int) := by omega
          have hsub : IntKind.i64.wrap ((p : Int) - 1) = (m : Int) := by rw [IntWalk.i64_in _ (by omega)]; omega
          have HDN := Lib.hid (insAt_down (rs := ss) (r := (id, xs)) (m := m))
          have HST := Lib.hid (insAt_stop (rs := ss) (r := (id, xs)) (m := m))
          have HPM := Lib.hid hpm
          clear q1 q2 q3 hz hpm
          have er : (((ss.getD m (0, [])).1, (ss.getD m (0, [])).2) : RowD) = ss.getD m (0, []) := rfl
          rw [er] at HX
          cases hless : rowLess (id, xs) (ss.getD m (0, [])) with
          | true =>
            have HA : Hid (insAt ss (id, xs) m = insAt ss (id, xs) k) := Lib.hid ((HDN.out hless).symm.trans ((congrArg _ HPM.out.symm).trans hin.out))
            rw [hless] at HX
            clear hless er HDN HST
            generalize (ss.getD m (0, [])).1 = id2 at *
            generalize (ss.getD m (0, [])).2 = ys at *
            generalize vs m = uu at *
            go_wp2
            refine wp_region_held_drew (S := fun w' => w'.cell? ⟨b, off + k * 2, none⟩ = some (.int .i64 id) ∧ w'.cell? ⟨b, off + k * 2 + 1, none⟩ = some vv ∧ w'.cell? ⟨g, m * 2, none⟩ = some (.int .i64 id2) ∧ w'.cell? ⟨g, m * 2 + 1, none⟩ = some uu) (by kernel_rfl) ⟨hc1', hc2', d1, d2⟩ (fun hHeld => ?_)
            refine take_runs (i := 0) (v := ?_) (by simp only [List.getElem?_toArray, List.getElem?_cons_succ, List.getElem?_cons_zero]; rfl) (by kernel_rfl) (by kernel_rfl) (by kernel_rfl) rfl (by exact fun _ _ _ h => h) (by rfl) ?_ (by assumption) ?_
            rotate_left
            · intro w hSw; (try dsimp only at hSw); go_simp; try (with_reducible rfl)
            try simp only [Act.put, List.setIfInBounds_toArray, List.set_cons_zero, List.set_cons_succ]
            refine take_runs (i := 1) (v := ?_) (by simp only [List.getElem?_toArray, List.getElem?_cons_succ, List.getElem?_cons_zero]; rfl) (by kernel_rfl) (by kernel_rfl) (by kernel_rfl) rfl (by exact fun _ _ _ h => h) (by rfl) ?_ (by assumption) ?_
            rotate_left
            · intro w hSw; (try dsimp only at hSw); go_simp; try (with_reducible rfl)
            try simp only [Act.put, List.setIfInBounds_toArray, List.set_cons_zero, List.set_cons_succ]
            refine take_runs (i := 2) (v := ?_) (by simp only [List.getElem?_toArray, List.getElem?_cons_succ, List.getElem?_cons_zero]; rfl) (by kernel_rfl) (by kernel_rfl) (by kernel_rfl) rfl (by exact fun _ _ _ h => h) (by rfl) ?_ (by assumption) ?_
            rotate_left
            · intro w hSw; (try dsimp only at hSw); go_simp; try (with_reducible rfl)
            try simp only [Act.put, List.setIfInBounds_toArray, List.set_cons_zero, List.set_cons_succ]
            refine take_runs (i := 3) (v := ?_) (by simp only [List.getElem?_toArray, List.getElem?_cons_succ, List.getElem?_cons_zero]; rfl) (by kernel_rfl) (by kernel_rfl) (by kernel_rfl) rfl (by exact fun _ _ _ h => h) (by rfl) ?_ (by assumption) ?_
            rotate_left
            · intro w hSw; (try dsimp only at hSw); go_simp; try (with_reducible rfl)
            try simp only [Act.put, List.setIfInBounds_toArray, List.set_cons_zero, List.set_cons_succ]
            refine take_runs (i := 4) (v := ?_) (by simp only [List.getElem?_toArray, List.getElem?_cons_succ, List.getElem?_cons_zero]; rfl) (by kernel_rfl) (by kernel_rfl) (by kernel_rfl) rfl (by exact fun _ _ _ h => h) (by rfl) ?_ (by assumption) ?_
            rotate_left
            · intro w hSw; (try dsimp only at hSw); go_simp; try (with_reducible rfl)
            try simp only [Act.put, List.setIfInBounds_toArray, List.set_cons_zero, List.set_cons_succ]
            refine take_runs (i := 5) (v := ?_) (by simp only [List.getElem?_toArray, List.getElem?_cons_succ, List.getElem?_cons_zero]; rfl) (by kernel_rfl) (by kernel_rfl) (by kernel_rfl) rfl (by exact fun _ _ _ h => h) (by rfl) ?_ (by assumption) ?_
            rotate_left
            · intro w hSw; (try dsimp only at hSw); go_simp; try (with_reducible rfl)
            try simp only [Act.put, List.setIfInBounds_toArray, List.set_cons_zero, List.set_cons_succ]
            refine take_runs (i := 6) (v := ?_) (by simp only [List.getElem?_toArray, List.getElem?_cons_succ, List.getElem?_cons_zero]; rfl) (by kernel_rfl) (by kernel_rfl) (by kernel_rfl) rfl (by exact fun _ _ _ h => h) (by rfl) ?_ (by assumption) ?_
            rotate_left
            · intro w hSw; (try dsimp only at hSw); go_simp; try (with_reducible rfl)
            try simp only [Act.put, List.setIfInBounds_toArray, List.set_cons_zero, List.set_cons_succ]
            refine take_runs (i := 7) (v := ?_) (by simp only [List.getElem?_toArray, List.getElem?_cons_succ, List.getElem?_cons_zero]; rfl) (by kernel_rfl) (by kernel_rfl) (by kernel_rfl) rfl (by exact fun _ _ _ h => h) (by rfl) ?_ (by assumption) ?_
            rotate_left
            · intro w hSw; (try dsimp only at hSw); go_simp; try (with_reducible rfl)
            try simp only [Act.put, List.setIfInBounds_toArray, List.set_cons_zero, List.set_cons_succ]
            refine take_runs (i := 8) (v := ?_) (by simp only [List.getElem?_toArray, List.getElem?_cons_succ, List.getElem?_cons_zero]; rfl) (by kernel_rfl) (by kernel_rfl) (by kernel_rfl) rfl (by exact fun _ _ _ h => h) (by rfl) ?_ (by assumption) ?_
            rotate_left
            · intro w hSw; (try dsimp only at hSw); go_simp; try (with_reducible rfl)
            try simp only [Act.put, List.setIfInBounds_toArray, List.set_cons_zero, List.set_cons_succ]
            refine take_runs (i := 9) (v := ?_) (by simp only [List.getElem?_toArray, List.getElem?_cons_succ, List.getElem?_cons_zero]; rfl) (by kernel_rfl) (by kernel_rfl) (by kernel_rfl) rfl (by exact fun _ _ _ h => h) (by rfl) ?_ (by assumption) ?_
            rotate_left
            · intro w hSw; (try dsimp only at hSw); go_simp; try (with_reducible rfl)
            try simp only [Act.put, List.setIfInBounds_toArray, List.set_cons_zero, List.set_cons_succ]
            refine take_runs (i := 10) (v := ?_) (by simp only [List.getElem?_toArray, List.getElem?_cons_succ, List.getElem?_cons_zero]; rfl) (by kernel_rfl) (by kernel_rfl) (by kernel_rfl) rfl (by exact fun _ _ _ h => h) (by rfl) ?_ (by assumption) ?_
            rotate_left
            · intro w hSw; (try dsimp only at hSw); go_simp; try (with_reducible rfl)
            try simp only [Act.put, List.setIfInBounds_toArray, List.set_cons_zero, List.set_cons_succ]
            refine take_runs (i := 11) (v := ?_) (by simp only [List.getElem?_toArray, List.getElem?_cons_succ, List.getElem?_cons_zero]; rfl) (by kernel_rfl) (by kernel_rfl) (by kernel_rfl) rfl (by exact fun _ _ _ h => h) (by rfl) ?_ (by assumption) ?_
            rotate_left
            · intro w hSw; (try dsimp only at hSw); go_simp; try (with_reducible rfl)
            try simp only [Act.put, List.setIfInBounds_toArray, List.set_cons_zero, List.set_cons_succ]
            refine wpAnyH_ready (rs := [12]) (by kernel_rfl) (by simp) ?_
            refine AllReadyH.cons (o := _) (by simp only [List.getElem?_toArray, List.getElem?_cons_succ, List.getElem?_cons_zero]; rfl) (fun K hK => ?_) AllReadyH.nil
            go_simp
            refine (HX.out _ (by exact ints_heap hI2.out rfl) (by exact ints_heap hJ.out rfl)).mono ?_
            rintro e w8 ⟨rfl, b9⟩
            have b10 : Below wr.heap.size wr w8 := ⟨b9.os, b9.tape, b9.output, b9.size, b9.block⟩
            have s1 := (b10.cell (p := ⟨b, off + k * 2, none⟩) (Nat.lt_of_lt_of_le hbl hb2.size)).trans hc1'
            have s2 := (b10.cell (p := ⟨b, off + k * 2 + 1, none⟩) (Nat.lt_of_lt_of_le hbl hb2.size)).trans hc2'
            have s3 := (b10.cell (p := ⟨g, m * 2, none⟩) (Nat.lt_of_lt_of_le hgl.2 hb2.size)).trans d1
            have s4 := (b10.cell (p := ⟨g, m * 2 + 1, none⟩) (Nat.lt_of_lt_of_le hgl.2 hb2.size)).trans d2
            refine hK.out _ _ ⟨s1, s2, s3, s4⟩ (fun hHeld => ?_)
            clear hK K
            try simp only [Act.put, List.setIfInBounds_toArray, List.set_cons_zero, List.set_cons_succ]
            refine take_runs (i := 13) (v := ?_) (by simp only [List.getElem?_toArray, List.getElem?_cons_succ, List.getElem?_cons_zero]; rfl) (by kernel_rfl) (by kernel_rfl) (by kernel_rfl) rfl (by exact fun _ _ _ h => h) (by rfl) ?_ (by assumption) ?_
            rotate_left
            · intro w hSw; (try dsimp only at hSw); go_simp; try (with_reducible rfl)
            try simp only [Act.put, List.setIfInBounds_toArray, List.set_cons_zero, List.set_cons_succ]
            refine wpAnyH_done (by kernel_rfl) ?_ _
            have b11 := hb2.trans (b10.mono hb2.size)
            clear s1 s2 s3 s4 hHeld b9 b10
            go_wp2
            go_roundw
            case rel => exact ⟨m, by omega, rfl, HA, b11⟩
            case measure => have := HPM.out; simp [intOf]; omega
          | false =>
            have HP : Hid (insAt ss (id, xs) k = p) := Lib.hid (hin.out.symm.trans ((congrArg _ HPM.out).trans ((HST.out hless).trans HPM.out.symm)))
            rw [hless] at HX
            clear hless er HDN HST
            generalize (ss.getD m (0, [])).1 = id2 at *
            generalize (ss.getD m (0, [])).2 = ys at *
            generalize vs m = uu at *
            go_wp2
            refine wp_region_held_drew (S := fun w' => w'.cell? ⟨b, off + k * 2, none⟩ = some (.int .i64 id) ∧ w'.cell? ⟨b, off + k * 2 + 1, none⟩ = some vv ∧ w'.cell? ⟨g, m * 2, none⟩ = some (.int .i64 id2) ∧ w'.cell? ⟨g, m * 2 + 1, none⟩ = some uu) (by kernel_rfl) ⟨hc1', hc2', d1, d2⟩ (fun hHeld => ?_)
            refine take_runs (i := 0) (v := ?_) (by simp only [List.getElem?_toArray, List.getElem?_cons_succ, List.getElem?_cons_zero]; rfl) (by kernel_rfl) (by kernel_rfl) (by kernel_rfl) rfl (by exact fun _ _ _ h => h) (by rfl) ?_ (by assumption) ?_
            rotate_left
            · intro w hSw; (try dsimp only at hSw); go_simp; try (with_reducible rfl)
            try simp only [Act.put, List.setIfInBounds_toArray, List.set_cons_zero, List.set_cons_succ]
            refine take_runs (i := 1) (v := ?_) (by simp only [List.getElem?_toArray, List.getElem?_cons_succ, List.getElem?_cons_zero]; rfl) (by kernel_rfl) (by kernel_rfl) (by kernel_rfl) rfl (by exact fun _ _ _ h => h) (by rfl) ?_ (by assumption) ?_
            rotate_left
            · intro w hSw; (try dsimp only at hSw); go_simp; try (with_reducible rfl)
            try simp only [Act.put, List.setIfInBounds_toArray, List.set_cons_zero, List.set_cons_succ]
            refine take_runs (i := 2) (v := ?_) (by simp only [List.getElem?_toArray, List.getElem?_cons_succ, List.getElem?_cons_zero]; rfl) (by kernel_rfl) (by kernel_rfl) (by kernel_rfl) rfl (by exact fun _ _ _ h => h) (by rfl) ?_ (by assumption) ?_
            rotate_left
            · intro w hSw; (try dsimp only at hSw); go_simp; try (with_reducible rfl)
            try simp only [Act.put, List.setIfInBounds_toArray, List.set_cons_zero, List.set_cons_succ]
            refine take_runs (i := 3) (v := ?_) (by simp only [List.getElem?_toArray, List.getElem?_cons_succ, List.getElem?_cons_zero]; rfl) (by kernel_rfl) (by kernel_rfl) (by kernel_rfl) rfl (by exact fun _ _ _ h => h) (by rfl) ?_ (by assumption) ?_
            rotate_left
            · intro w hSw; (try dsimp only at hSw); go_simp; try (with_reducible rfl)
            try simp only [Act.put, List.setIfInBounds_toArray, List.set_cons_zero, List.set_cons_succ]
            refine take_runs (i := 4) (v := ?_) (by simp only [List.getElem?_toArray, List.getElem?_cons_succ, List.getElem?_cons_zero]; rfl) (by kernel_rfl) (by kernel_rfl) (by kernel_rfl) rfl (by exact fun _ _ _ h => h) (by rfl) ?_ (by assumption) ?_
            rotate_left
            · intro w hSw; (try dsimp only at hSw); go_simp; try (with_reducible rfl)
            try simp only [Act.put, List.setIfInBounds_toArray, List.set_cons_zero, List.set_cons_succ]
            refine take_runs (i := 5) (v := ?_) (by simp only [List.getElem?_toArray, List.getElem?_cons_succ, List.getElem?_cons_zero]; rfl) (by kernel_rfl) (by kernel_rfl) (by kernel_rfl) rfl (by exact fun _ _ _ h => h) (by rfl) ?_ (by assumption) ?_
            rotate_left
            · intro w hSw; (try dsimp only at hSw); go_simp; try (with_reducible rfl)
            try simp only [Act.put, List.setIfInBounds_toArray, List.set_cons_zero, List.set_cons_succ]
            refine take_runs (i := 6) (v := ?_) (by simp only [List.getElem?_toArray, List.getElem?_cons_succ, List.getElem?_cons_zero]; rfl) (by kernel_rfl) (by kernel_rfl) (by kernel_rfl) rfl (by exact fun _ _ _ h => h) (by rfl) ?_ (by assumption) ?_
            rotate_left
            · intro w hSw; (try dsimp only at hSw); go_simp; try (with_reducible rfl)
            try simp only [Act.put, List.setIfInBounds_toArray, List.set_cons_zero, List.set_cons_succ]
            refine take_runs (i := 7) (v := ?_) (by simp only [List.getElem?_toArray, List.getElem?_cons_succ, List.getElem?_cons_zero]; rfl) (by kernel_rfl) (by kernel_rfl) (by kernel_rfl) rfl (by exact fun _ _ _ h => h) (by rfl) ?_ (by assumption) ?_
            rotate_left
            · intro w hSw; (try dsimp only at hSw); go_simp; try (with_reducible rfl)
            try simp only [Act.put, List.setIfInBounds_toArray, List.set_cons_zero, List.set_cons_succ]
            refine take_runs (i := 8) (v := ?_) (by simp only [List.getElem?_toArray, List.getElem?_cons_succ, List.getElem?_cons_zero]; rfl) (by kernel_rfl) (by kernel_rfl) (by kernel_rfl) rfl (by exact fun _ _ _ h => h) (by rfl) ?_ (by assumption) ?_
            rotate_left
            · intro w hSw; (try dsimp only at hSw); go_simp; try (with_reducible rfl)
            try simp only [Act.put, List.setIfInBounds_toArray, List.set_cons_zero, List.set_cons_succ]
            refine take_runs (i := 9) (v := ?_) (by simp only [List.getElem?_toArray, List.getElem?_cons_succ, List.getElem?_cons_zero]; rfl) (by kernel_rfl) (by kernel_rfl) (by kernel_rfl) rfl (by exact fun _ _ _ h => h) (by rfl) ?_ (by assumption) ?_
            rotate_left
            · intro w hSw; (try dsimp only at hSw); go_simp; try (with_reducible rfl)
            try simp only [Act.put, List.setIfInBounds_toArray, List.set_cons_zero, List.set_cons_succ]
            refine take_runs (i := 10) (v := ?_) (by simp only [List.getElem?_toArray, List.getElem?_cons_succ, List.getElem?_cons_zero]; rfl) (by kernel_rfl) (by kernel_rfl) (by kernel_rfl) rfl (by exact fun _ _ _ h => h) (by rfl) ?_ (by assumption) ?_
            rotate_left
            · intro w hSw; (try dsimp only at hSw); go_simp; try (with_reducible rfl)
            try simp only [Act.put, List.setIfInBounds_toArray, List.set_cons_zero, List.set_cons_succ]
            refine take_runs (i := 11) (v := ?_) (by simp only [List.getElem?_toArray, List.getElem?_cons_succ, List.getElem?_cons_zero]; rfl) (by kernel_rfl) (by kernel_rfl) (by kernel_rfl) rfl (by exact fun _ _ _ h => h) (by rfl) ?_ (by assumption) ?_
            rotate_left
            · intro w hSw; (try dsimp only at hSw); go_simp; try (with_reducible rfl)
            try simp only [Act.put, List.setIfInBounds_toArray, List.set_cons_zero, List.set_cons_succ]
            refine wpAnyH_ready (rs := [12]) (by kernel_rfl) (by simp) ?_
            refine AllReadyH.cons (o := _) (by simp only [List.getElem?_toArray, List.getElem?_cons_succ, List.getElem?_cons_zero]; rfl) (fun K hK => ?_) AllReadyH.nil
            go_simp
            refine (HX.out _ (by exact ints_heap hI2.out rfl) (by exact ints_heap hJ.out rfl)).mono ?_
            rintro e w8 ⟨rfl, b9⟩
            have b10 : Below wr.heap.size wr w8 := ⟨b9.os, b9.tape, b9.output, b9.size, b9.block⟩
            have s1 := (b10.cell (p := ⟨b, off + k * 2, none⟩) (Nat.lt_of_lt_of_le hbl hb2.size)).trans hc1'
            have s2 := (b10.cell (p := ⟨b, off + k * 2 + 1, none⟩) (Nat.lt_of_lt_of_le hbl hb2.size)).trans hc2'
            have s3 := (b10.cell (p := ⟨g, m * 2, none⟩) (Nat.lt_of_lt_of_le hgl.2 hb2.size)).trans d1
            have s4 := (b10.cell (p := ⟨g, m * 2 + 1, none⟩) (Nat.lt_of_lt_of_le hgl.2 hb2.size)).trans d2
            refine hK.out _ _ ⟨s1, s2, s3, s4⟩ (fun hHeld => ?_)
            clear hK K
            try simp only [Act.put, List.setIfInBounds_toArray, List.set_cons_zero, List.set_cons_succ]
            refine take_runs (i := 13) (v := ?_) (by simp only [List.getElem?_toArray, List.getElem?_cons_succ, List.getElem?_cons_zero]; rfl) (by kernel_rfl) (by kernel_rfl) (by kernel_rfl) rfl (by exact fun _ _ _ h => h) (by rfl) ?_ (by assumption) ?_
            rotate_left
            · intro w hSw; (try dsimp only at hSw); go_simp; try (with_reducible rfl)
            try simp only [Act.put, List.setIfInBounds_toArray, List.set_cons_zero, List.set_cons_succ]
            refine wpAnyH_done (by kernel_rfl) ?_ _
            have b11 := hb2.trans (b10.mono hb2.size)
            clear s1 s2 s3 s4 hHeld b9 b10
            clear d1 d2 hJ hI2 HX hyl hg hgn j1 j2 hsub hc1' hc2'
            have hkc : k ≤ cp := by
              rcases H1k.out.2 with ⟨hn, _⟩ | ⟨g', cap', cur, e, _, _, hn, _⟩
              · simp at hn
              · simp only [Value.slice.injEq] at e; omega
            have j3 : (0 : Int) ≤ (p : Int) := by omega
            have j4 : (p : Int) ≤ (cp : Int) := by omega
            have j5 : (p : Int) ≤ (k : Int) := by omega
            have hcl : cs.length = k * 2 := H1k.out.1
            have hone := rows_one (by rw [hsl]; exact hcl) (fun j hj => ⟨(H2.out j hj).1, (H2.out j hj).2.1, (H2.out j hj).2.2.1⟩)
            have HONE := Lib.hid hone
            have HCS := Lib.hid (fun w hb => rows_cells H1k.out (w := w) hb)
            have oX0 : RowsC (w8.alloc (.cells #[] 36)) W0.heap.size (.slice (some ⟨w8.heap.size, 0, none⟩) 0 0) 0 [] := World.ownsRow_lit (e := 36) (size := 2) w8 #[] 0 b11.size (by unfold maxLen; omega) rfl
            have bX0 : Below W0.heap.size W0 (w8.alloc (.cells #[] 36)) := b11.alloc b11.size _
            clear hone
            go_wp2_with (at_builtin; refine append_rows rfl (.tmp 32) (.tmp 35) rfl W0.heap.size _ 0 [] rfl oX0 bX0.size ⟨g, 0, none⟩ p cp (cs.take (p * 2)) rfl (by rw [List.length_take]; omega) (fun j u hj => HCS.out _ bX0 j u (by rw [List.getElem?_take] at hj; split at hj; exact hj; cases hj)) (fun u hu => HONE.out u (List.mem_of_mem_take hu)) (by omega) ?_)
            intro x1 W1 oX1 gX1 _ hat1
            have bel1 : Below w8.heap.size w8 W1 := ((Below.refl _ w8).alloc (Nat.le_refl _) _).grown gX1 (by simp) (fun k hk => by simp [Value.ownBlock] at hk; omega)
            have B1 := b11.trans (bel1.mono b11.size)
            have oX1' : RowsC W1 W0.heap.size x1 p (cs.take (p * 2)) := by simpa using oX1
            have hc1w := (B1.cell (p := ⟨b, off + k * 2, none⟩) hbl).trans hc1
            have hc2w := (B1.cell (p := ⟨b, off + k * 2 + 1, none⟩) hbl).trans hc2
            have HI1 := Lib.hid (ints_below HI.out B1)
            have hx1 : Hid (∀ b, x1.ownBlock = some b → b < W1.heap.size) := Lib.hid (fun b e => (oX1'.lt b e).2)
            clear oX1 gX1 oX0 bX0 hat1
            go_wp2_with fail
            refine (l3Copy_any id vv xs W1 HI1.out hxl).mono ?_
            rintro e W2 ⟨uu2, rfl, oV, bel2⟩
            obtain ⟨va, vc, rfl⟩ := ints_len (ownsN_ints oV)
            have B2 := B1.trans (bel2.mono B1.size)
            have oX1b : RowsC (W2.alloc (.cells #[.int .i64 id, .slice va xs.length vc] 36)) W0.heap.size x1 p (cs.take (p * 2)) := World.ownsRow.alloc (rowsC_kept oX1' bel2) _
            have B2a := B2.alloc B2.size (.cells #[.int .i64 id, .slice va xs.length vc] 36)
            clear hc1w hc2w
            go_wp2_with (at_builtin; refine append_rows rfl (.tmp 37) (.tmp 43) rfl W0.heap.size x1 p _ rfl oX1b B2a.size ⟨W2.heap.size, 0, none⟩ 1 1 [.int .i64 id, .slice va xs.length vc] rfl rfl (fun j u hj => by rw [Go.WideShapes.add_plain, Nat.zero_add, cell_lit]; simpa using hj) (by intro u hu; simp at hu; rcases hu with rfl | rfl <;> rfl) (by omega) ?_)
            intro x2 W3 oX2 gX2 _ hat2
            have bel3 := (Below.refl W0.heap.size (W2.alloc (.cells #[.int .i64 id, .slice va xs.length vc] 36))).grown gX2 B2a.size (fun k hk => (oX1b.lt k hk).1)
            have B3 := B2a.trans bel3
            have hdl : (cs.drop (p * 2)).length = (k - p) * 2 := by rw [List.length_drop]; omega
            have HNW := Lib.hid (fun (j : Nat) (u : Value) (hj : (cs.drop (p * 2))[j]? = some u) => show W3.cell? ((⟨g, p * 2, none⟩ : Addr).add j) = some u by
              rw [List.getElem?_drop] at hj
              have := HCS.out W3 B3 (p * 2 + j) u hj
              rw [Go.WideShapes.add_plain, Nat.zero_add] at this
              rw [Go.WideShapes.add_plain]; exact this)
            have oX2' : RowsC W3 W0.heap.size x2 (p + 1) (cs.take (p * 2) ++ [.int .i64 id, .slice va xs.length vc]) := oX2
            by_cases hpc : cp = p
            · have hdn : cs.drop (p * 2) = [] := List.eq_nil_of_length_eq_zero (by omega)
              have hq3 : cp - p = 0 := by omega
              go_wp2_with (at_builtin; refine append_rows rfl (.tmp 45) (.tmp 48) rfl W0.heap.size x2 (p + 1) _ rfl oX2' B3.size ⟨g, 0, none⟩ (k - p) 0 (cs.drop (p * 2)) (by first | rfl | (simp; done)) hdl (fun j u hj => by rw [hdn] at hj; cases hj) (fun u hu => HONE.out u (List.mem_of_mem_drop hu)) (by omega) ?_)
              intro x3 W4 oX3 gX3 _ hat3
              obtain ⟨FO, FB⟩ := insert_end hp hsl H1.out H2.out H3.out hbel.size B1.size hx1.out oV gX2 hat2 B3 oX2' gX3 hat3 oX3 (by simp [hdn]) HP.out
              obtain ⟨g3, cp3, rfl⟩ := rowsC_form oX3 (by omega)
              rw [show p + 1 + (k - p) = k + 1 by omega] at FO
              have FB2 := hbel.trans (FB.mono hbel.size)
              have e9 : p + 1 + (k - p) = k + 1 := by omega
              rw [e9]
              clear oX3 gX3 hat3
              go_wp2
              go_roundw
              case rel => exact ⟨k + 1, g3, cp3, by omega, by go_num, rfl, by rw [HSTEP.out]; exact FO, FB2⟩
              case measure => simp [intOf]; omega
            · have hq2 : ¬ p = cp := fun e => hpc e.symm
              have hq3 : ¬ cp - p = 0 := by omega
              have hq4 : p < cp := by omega
              have hq5 : ¬ cp ≤ p := by omega
              go_wp2_with (at_builtin; refine append_rows rfl (.tmp 45) (.tmp 48) rfl W0.heap.size x2 (p + 1) _ rfl oX2' B3.size ⟨g, p * 2, none⟩ (k - p) (cp - p) (cs.drop (p * 2)) (by first | rfl | (simp; done)) hdl HNW.out (fun u hu => HONE.out u (List.mem_of_mem_drop hu)) (by omega) ?_)
              intro x3 W4 oX3 gX3 _ hat3
              obtain ⟨FO, FB⟩ := insert_end hp hsl H1.out H2.out H3.out hbel.size B1.size hx1.out oV gX2 hat2 B3 oX2' gX3 hat3 oX3 (by simp) HP.out
              obtain ⟨g3, cp3, rfl⟩ := rowsC_form oX3 (by omega)
              rw [show p + 1 + (k - p) = k + 1 by omega] at FO
              have FB2 := hbel.trans (FB.mono hbel.size)
              have e9 : p + 1 + (k - p) = k + 1 := by omega
              rw [e9]
              clear oX3 gX3 hat3
              go_wp2
              go_roundw
              case rel => exact ⟨k + 1, g3, cp3, by omega, by go_num, rfl, by rw [HSTEP.out]; exact FO, FB2⟩
              case measure => simp [intOf]; omega
    · obtain rfl : k = rs.length := by omega
      rw [sortTo_all] at hown
      go_wp2
      go_ret
      exact ⟨_, rfl, hown, hbel⟩
end Go.Proofs.YteelgogfpidcdaaGreatDoor
