/-
  Texts of the proof, merged: Ints, LawInts, RowVal, SetMath, SetSpec, RowSpec, RowSl, RowOwn, RowLaw1, RowLaws, RowEq, Take, RowAre, RowLess, AppInts, RowCopy, RowMark, RowMarkW, RowIns, VerMath, UpdMath, CondVal, CondSpec, QueryVal, QuerySpec, QuerySl, AdmitSpec, QueryOwn, QueryAre, SpanVal, SpanSl, StabMath, FreshInts, FindSpec, IndexMath, EngMath, ChgMath, Bytes, Ty, Pk, TyInt, TyApp, PkA, Sep2, Uni, TCharge, TChargeS, TCond, FlatT, Raw, PkN, PkS, ChgLawM, TVersion, TVersionS, TVersionSS, TStore, TyIntE, TCondS, TQuery, TRow, TRowS, TActive, TActiveS, TFinished, TFinishedS, TEngine, EngBr, BrRow, EngSpec1, TQueryS, BrQuery, EngSpec2, FmtMath, FmtWalks, RunMath, FmtSet, RowFmt, ChgFmt, VerBr, Rec, RecLim, RecEq, RowIsP, VerP1, VerP2, HasSeg, QueryIsP, MaskMath.
-/
import Derived.Test.YtjeaimdnddelpaaDoorRows
import Derived.Test.YtjeaimdnddelpaaDoorShelf
import Derived.WalkKit
import Derived.Below
import Derived.Lib.Hide
import Derived.OwnWalk
import Derived.BigQuiet
import Derived.Deep.QuietTactic
import Derived.WalkSpells
import Derived.Deep.RegionHeld3
import Derived.IntWalk
import Derived.Deep.Upon
import Derived.Maps.AppendAt
import Derived.Laws.BytesArg
import Derived.Laws.IdiomStrings
import Derived.Laws.Concat
import Derived.Laws.OwnMore
import Derived.Laws.MakeOwn
import Derived.Laws.Cells
import Derived.Laws.CopyRow
import Derived.Deep.Slices
import Derived.Lib.ItoaMem
import Derived.Lib.ItoaLen
import Derived.Lib.AppendIntMem
import Derived.Laws.CopyOwn
import Derived.Lib.MinMax
import Derived.Laws.StructEq
namespace Go.Proofs.YtjeaimdnddelpaaDoor
open Go.RowKit
set_option linter.unusedVariables false
theorem Tryd.infoI64 : (Tryd.prog.info? 3).map (fun i => (i.zero, i.size, i.bytes)) = some (some (.int .i64 0), 1, 8) := by kernel_rfl
/-- The slice v reads as the numbers xs. -/
def Ints (w : World) (v : Value) (xs : List Int) : Prop :=
  (xs = [] ∧ ∃ a cap, v = .slice a 0 cap) ∨ ∃ b off cap, v = .slice (some ⟨b, off, none⟩) xs.length cap ∧ xs.length ≤ cap ∧ b < w.heap.size ∧ ∀ j, j < xs.length → w.cell? ⟨b, off + j, none⟩ = some (.int .i64 (xs.getD j 0))
/-- The slice v owns the numbers xs, in a block from B on. -/
def OwnsN (w : World) (B : Nat) (v : Value) (xs : List Int) : Prop := w.ownsRow B 3 1 v xs.length (xs.map (Value.int .i64))
theorem below_same {B : Nat} {a w w' : World} (h : Below B a w) (h1 : w'.heap = w.heap) (h2 : w'.os = w.os) (h3 : w'.tape = w.tape) (h4 : w'.output = w.output) : Below B a w' :=
  ⟨h2.trans h.os, h3.trans h.tape, h4.trans h.output, by rw [h1]; exact h.size, fun k hk => by rw [h1]; exact h.block k hk⟩
theorem ints_len {w : World} {v : Value} {xs : List Int} (h : Ints w v xs) : ∃ a cap, v = .slice a xs.length cap := by
  rcases h with ⟨rfl, a, cap, rfl⟩ | ⟨b, off, cap, rfl, _⟩
  · exact ⟨a, cap, rfl⟩
  · exact ⟨_, cap, rfl⟩
theorem ownsN_nil (w : World) (B : Nat) : OwnsN w B (.slice none 0 0) [] := World.ownsRow_nil w B _ _
theorem ownsN_lit (w : World) (B : Nat) (hb : B ≤ w.heap.size) (C : Array Value) (n : Nat) (xs : List Int) (hC : C.toList = xs.map (Value.int .i64)) (hn : n = xs.length) (hm : n ≤ maxLen) :
    OwnsN (w.alloc (.cells C 3)) B (.slice (some ⟨w.heap.size, 0, none⟩) n n) xs := by
  subst hn
  have := World.ownsRow_lit (e := 3) (size := 1) w C xs.length hb hm (by have := congrArg List.length hC; simpa using this)
  rw [hC] at this
  exact this
theorem cell_lit (w : World) (C : Array Value) (t : TypeId) (j : Nat) : (w.alloc (.cells C t)).cell? ⟨w.heap.size, j, none⟩ = C[j]? := by
  rw [cell_of_row _ w.heap.size j C t (0, 0) (heap_alloc_new w _)]
/-- 'append(out, x..)' where the numbers lie in a block that was just laid. -/
theorem append_ints {w : World} {ops : Array Oper} {rest : List Oper} {o : Oper} {a : Act} {Q : Exit → Act → World → Prop} (hgd : o.guard = none) (s x : Operand)
    (ho : o.op = .call { callee := .builtin .append, args := #[s, x], argTypes := #[24, 24] })
    (B : Nat) (v : Value) (xs : List Int) (hs : a.eval s = v) (hown : OwnsN w B v xs) (hB : B ≤ w.heap.size)
    (C : Array Value) (ys : List Int) (m c : Nat) (hx : a.eval x = .slice (some ⟨w.heap.size, 0, none⟩) m c) (hC : C.toList = ys.map (Value.int .i64)) (hm : m = ys.length)
    (h63 : xs.length + ys.length ≤ 17592186044416)
    (h : ∀ v' w', OwnsN w' B v' (xs ++ ys) → Below B w w' → wpList Tryd.prog ops Q rest (a.put o.dst v') w') : wpList Tryd.prog ops Q (o :: rest) a (w.alloc (.cells C 3)) := by
  obtain ⟨i0, hi, hz0, hz1, hz2⟩ := info_parts Tryd.infoI64
  subst hm
  refine wpList_append_own _ hgd s x 24 ho B 3 i0 (.int .i64 0) 1 8 Tryd.underlying24 hi hz0 hz1 hz2 rfl (by decide) v xs.length _ hs (hown.alloc _) ⟨w.heap.size, 0, none⟩ ys.length c (ys.map (Value.int .i64)) hx (by simp) ?_ (by intro u hu; simp at hu; obtain ⟨y, _, rfl⟩ := hu; rfl) (by unfold maxLen; omega) (by omega) (by simp; omega) ?_
  · intro j u hj
    have e : (⟨w.heap.size, 0, none⟩ : Addr).add j = ⟨w.heap.size, j, none⟩ := by unfold Addr.add; split <;> simp_all
    rw [e, cell_lit]
    rw [← hC] at hj
    simpa using hj
  · intro v' w' h1 h2 _
    refine h v' w' ?_ ?_
    · unfold OwnsN
      simpa using h1
    · exact ((Below.refl B w).alloc hB _).grown h2 (by simp; omega) (fun k hk => (hown.lt k hk).1)
/-- What is owned reads so. -/
theorem ownsN_ints {w : World} {B : Nat} {v : Value} {xs : List Int} (h : OwnsN w B v xs) : Ints w v xs := by
  rcases h.2 with ⟨rfl, h0⟩ | ⟨g, cap, cur, rfl, hb, hg, hn, hm, hcs, htake⟩
  · have : xs = [] := List.eq_nil_of_length_eq_zero h0
    subst this
    exact Or.inl ⟨rfl, none, 0, rfl⟩
  · refine Or.inr ⟨g, 0, cap, rfl, hn, (Array.getElem?_eq_some_iff.1 hg).1, ?_⟩
    intro j hj
    have := World.ownsRow.cells h (g := g) rfl j (.int .i64 (xs.getD j 0)) (by simp [List.getElem?_eq_getElem hj])
    have e : (⟨g, 0, none⟩ : Addr).add j = ⟨g, 0 + j, none⟩ := by unfold Addr.add; split <;> simp_all
    rwa [e] at this
/-- What 'make([]int, n)' owns. -/
theorem ownsN_made {w : World} {B g n : Nat} (h : w.ownsRow B 3 1 (.slice (some ⟨g, 0, none⟩) n n) n (madeCells #[Value.int .i64 0] n).toList) : OwnsN w B (.slice (some ⟨g, 0, none⟩) n n) (List.replicate n 0) := by
  have e : (madeCells #[Value.int .i64 0] n).toList = List.replicate n (.int .i64 0) := toList_madeCells_one (.int .i64 0) n
  rw [e] at h
  unfold OwnsN
  simpa using h
theorem ownsN_len {w : World} {B : Nat} {a : Option Addr} {n cap : Nat} {xs : List Int} (h : OwnsN w B (.slice a n cap) xs) : n = xs.length := by
  rcases h.2 with ⟨h', h0⟩ | ⟨_, _, _, h', _⟩
  · simp only [Value.slice.injEq] at h'; omega
  · simp only [Value.slice.injEq] at h'; exact h'.2.1
theorem ownsN_cell {w : World} {B g n cap j : Nat} {xs : List Int} {x : Int} (h : OwnsN w B (.slice (some ⟨g, 0, none⟩) n cap) xs) (hx : xs[j]? = some x) : w.cell? ⟨g, j, none⟩ = some (.int .i64 x) := by
  have := World.ownsRow.cells h (g := g) rfl j (.int .i64 x) (by simp [hx])
  have e : (⟨g, 0, none⟩ : Addr).add j = ⟨g, j, none⟩ := by unfold Addr.add; split <;> simp_all
  rwa [e] at this
theorem ownsN_frozen {w : World} {B g n cap : Nat} {xs : List Int} (h : OwnsN w B (.slice (some ⟨g, 0, none⟩) n cap) xs) (j : Nat) : w.frozen? ⟨g, j, none⟩ = false := by
  obtain rfl := ownsN_len h
  exact World.ownsRow.frozenAt h j
theorem ownsN_store {w : World} {B g n cap : Nat} {xs : List Int} (h : OwnsN w B (.slice (some ⟨g, 0, none⟩) n cap) xs) (j : Nat) (x : Int) : OwnsN (w.setCell ⟨g, j, none⟩ (.int .i64 x)) B (.slice (some ⟨g, 0, none⟩) n cap) (xs.set j x) := by
  obtain rfl := ownsN_len h
  have := (World.ownsRow.stored h j (.int .i64 x)).1
  unfold OwnsN
  rw [List.length_set, List.map_set]
  exact this
/-- What is owned stays owned while only blocks beyond it, or none of its own, are written. -/
theorem ownsN_below {w w' : World} {B : Nat} {v : Value} {xs : List Int} (h : OwnsN w B v xs) (hb : Below w.heap.size w w') : OwnsN w' B v xs := by
  refine ⟨h.1, ?_⟩
  rcases h.2 with hn | ⟨g, cap, cur, rfl, hb', hg, rest⟩
  · exact .inl hn
  · refine .inr ⟨g, cap, cur, rfl, hb', ?_, rest⟩
    rw [hb.block g (Array.getElem?_eq_some_iff.1 hg).1]
    exact hg
end Go.Proofs.YtjeaimdnddelpaaDoor
namespace Go.Proofs.YtjeaimdnddelpaaDoor
open Go.RowKit
set_option linter.unusedVariables false
theorem ints_cell {w : World} {v : Value} {xs : List Int} (h : Ints w v xs) (hp : 0 < xs.length) : ∃ b off cap, v = .slice (some ⟨b, off, none⟩) xs.length cap ∧ b < w.heap.size ∧ ∀ j, j < xs.length → w.cell? ⟨b, off + j, none⟩ = some (.int .i64 (xs.getD j 0)) := by
  rcases h with ⟨rfl, _⟩ | ⟨b, off, cap, h1, h2, h3, h4⟩
  · simp at hp
  · exact ⟨b, off, cap, h1, h3, h4⟩
theorem copy_step (xs : List Int) (k : Nat) (h : k < xs.length) : (xs.take k ++ List.replicate (xs.length - k) 0).set k (xs.getD k 0) = xs.take (k + 1) ++ List.replicate (xs.length - (k + 1)) 0 := by
  have hk : (xs.take k).length = k := by rw [List.length_take]; omega
  rw [List.set_append_right _ _ (by omega), hk, Nat.sub_self, show xs.length - k = (xs.length - (k + 1)) + 1 by omega, List.replicate_succ, List.set_cons_zero, List.take_succ_eq_append_getElem h, List.append_assoc]
  simp [List.getD, h]
theorem copy_at (xs : List Int) (k : Nat) (h : k < xs.length) : (xs.take k ++ List.replicate (xs.length - k) 0)[k]? = some 0 := by
  have hk : (xs.take k).length = k := by rw [List.length_take]; omega
  rw [List.getElem?_append_right (by omega), hk, Nat.sub_self, List.getElem?_replicate, if_pos (by omega)]
/-- The numbers k, k + 1, ... -/
def marks (k : Int) (n : Nat) : List Int := (List.range n).map fun i : Nat => k + (i : Int)
end Go.Proofs.YtjeaimdnddelpaaDoor
namespace Go.Proofs.YtjeaimdnddelpaaDoor
open Go.RowKit
set_option linter.unusedVariables false
/-- A row: its number and its values. -/
abbrev RowD := Int × List Int
end Go.Proofs.YtjeaimdnddelpaaDoor
namespace Go.Proofs.YtjeaimdnddelpaaDoor
/-- Is the list a set? -/
def SetL (l : List Int) : Prop := (∀ i, i < l.length → 0 ≤ l.getD i 0 ∧ l.getD i 0 ≤ 23) ∧ ∀ i, i + 1 < l.length → l.getD i 0 < l.getD (i + 1) 0
/-- The same as a test. -/
def setB (l : List Int) : Bool := (List.range l.length).all fun i => decide (0 ≤ l.getD i 0) && decide (l.getD i 0 ≤ 23) && (decide (i = 0) || decide (l.getD (i - 1) 0 < l.getD i 0))
theorem setB_iff (l : List Int) : setB l = true ↔ SetL l := by
  unfold setB SetL
  rw [List.all_eq_true]
  simp only [List.mem_range, Bool.and_eq_true, Bool.or_eq_true, decide_eq_true_eq]
  constructor
  · intro h
    refine ⟨fun i hi => (h i hi).1, fun i hi => ?_⟩
    rcases (h (i + 1) hi).2 with h1 | h1
    · omega
    · simpa using h1
  · rintro ⟨h1, h2⟩ i hi
    refine ⟨h1 i hi, ?_⟩
    by_cases e : i = 0
    · exact Or.inl e
    · right
      have := h2 (i - 1) (by omega)
      rwa [show i - 1 + 1 = i by omega] at this
theorem setB_no {l : List Int} (h : ¬ SetL l) : setB l = false := by
  cases e : setB l with
  | false => rfl
  | true => exact absurd ((setB_iff l).1 e) h
/-- As far as k the list is a set. -/
def SetTo (l : List Int) (k : Nat) : Prop := (∀ i, i < k → 0 ≤ l.getD i 0 ∧ l.getD i 0 ≤ 23) ∧ ∀ i, i + 1 < k → l.getD i 0 < l.getD (i + 1) 0
theorem setTo_all (l : List Int) : SetTo l l.length ↔ SetL l := Iff.rfl
theorem setTo_step {l : List Int} {k : Nat} (h : SetTo l k) (h0 : 0 ≤ l.getD k 0) (h1 : l.getD k 0 ≤ 23) (h2 : 0 < k → l.getD (k - 1) 0 < l.getD k 0) : SetTo l (k + 1) := by
  refine ⟨fun i hi => ?_, fun i hi => ?_⟩
  · by_cases e : i = k
    · subst e; exact ⟨h0, h1⟩
    · exact h.1 i (by omega)
  · by_cases e : i + 1 = k
    · subst e; have := h2 (by omega); simpa using this
    · exact h.2 i (by omega)
theorem not_set_range {l : List Int} {k : Nat} (hk : k < l.length) (h : ¬ (0 ≤ l.getD k 0 ∧ l.getD k 0 ≤ 23)) : ¬ SetL l := fun g => h (g.1 k hk)
theorem not_set_order {l : List Int} {k : Nat} (hk : k < l.length) (h0 : 0 < k) (h : ¬ l.getD (k - 1) 0 < l.getD k 0) : ¬ SetL l := fun g => by
  have := g.2 (k - 1) (by omega)
  rw [show k - 1 + 1 = k by omega] at this
  exact h this
theorem member_iff (l : List Int) (x : Int) : x ∈ l ↔ ∃ i, i < l.length ∧ l.getD i 0 = x := by
  constructor
  · intro h
    obtain ⟨i, hi, e⟩ := List.getElem_of_mem h
    exact ⟨i, hi, by simp [List.getD, hi, e]⟩
  · rintro ⟨i, hi, e⟩
    have : l[i] = x := by simpa [List.getD, hi] using e
    rw [← this]; exact List.getElem_mem hi
end Go.Proofs.YtjeaimdnddelpaaDoor
namespace Go.Proofs.YtjeaimdnddelpaaDoor
open Go.RowKit
set_option linter.unusedVariables false
theorem ret_b {b c : Bool} (h : b = c) : Ending.returned (.bool b) = .returned (.bool c) := by rw [h]
theorem in_yes (a l h : Int) (w : World) (h1 : l ≤ a) (h2 : a ≤ h) : Calls Tryd.prog 34 #[.int .i64 a, .int .i64 l, .int .i64 h] w fun e w' => e = .returned (.bool true) ∧ w' = w := by
  go_enter Tryd.func34, Tryd.ntmps34
  go_wp2
  go_ret
  exact ⟨rfl, rfl⟩
theorem in_no (a l h : Int) (w : World) (hh : ¬ (l ≤ a ∧ a ≤ h)) : Calls Tryd.prog 34 #[.int .i64 a, .int .i64 l, .int .i64 h] w fun e w' => e = .returned (.bool false) ∧ w' = w := by
  by_cases h1 : l ≤ a
  · have h2 : ¬ a ≤ h := by omega
    clear hh
    go_enter Tryd.func34, Tryd.ntmps34
    go_wp2
    go_ret
    exact ⟨rfl, rfl⟩
  · clear hh
    go_enter Tryd.func34, Tryd.ntmps34
    go_wp2
    go_ret
    exact ⟨rfl, rfl⟩
/-! ### HasMember -/
set_option maxRecDepth 100000 in
theorem specHas (v : Value) (xs : List Int) (x : Int) (w : World) (h : Ints w v xs) (hn : xs.length ≤ 1048576) :
    Calls Tryd.prog 45 #[v, .int .i64 x] w fun e w' => e = .returned (.bool (decide (x ∈ xs))) ∧ w = w' := by
  have H := Lib.hid h
  obtain ⟨a, cap, rfl⟩ := ints_len h
  clear h
  go_enter Tryd.func45, Tryd.ntmps45
  go_wp2
  go_loop [5] (fun i => ∃ k : Nat, k ≤ xs.length ∧ i = .int .i64 k ∧ Hid (∀ j, j < k → xs.getD j 0 ≠ x)) (fun i => xs.length - (intOf i).toNat)
  case atStart => exact ⟨0, Nat.zero_le _, rfl, Lib.hid (fun j hj => by omega)⟩
  case round =>
    obtain ⟨k, hk, rfl, hne⟩ := hrel
    by_cases hlt : k < xs.length
    · obtain ⟨b, off, cap', hv, hbl, hc⟩ := ints_cell H.out (by omega)
      simp only [Value.slice.injEq] at hv
      obtain ⟨rfl, _, rfl⟩ := hv
      have hcell := hc k hlt
      have i1 : (0 : Int) ≤ (k : Int) := by omega
      have i2 : (k : Int) < (xs.length : Int) := by omega
      clear hc
      by_cases he : xs.getD k 0 = x
      · have HY := Lib.hid (show decide (x ∈ xs) = true from decide_eq_true ((member_iff xs x).2 ⟨k, hlt, he⟩))
        rw [he] at hcell
        have heq : (x == x) = true := by simp
        clear he
        go_wp2
        go_ret
        exact ⟨ret_b HY.out.symm, rfl⟩
      · have HN : Hid (∀ j, j < k + 1 → xs.getD j 0 ≠ x) := Lib.hid (fun j hj => by
          by_cases e : j = k
          · exact e ▸ he
          · exact hne.out j (by omega))
        have heq : (xs.getD k 0 == x) = false := by rw [beq_eq_false_iff_ne]; exact he
        clear he
        generalize xs.getD k 0 = y at hcell heq
        go_wp2
        go_round
        case rel => exact ⟨k + 1, by omega, by go_num, HN⟩
        case measure => simp [intOf]; omega
    · have HN := Lib.hid (show decide (x ∈ xs) = false from decide_eq_false (fun g => by
        obtain ⟨j, hj, e⟩ := (member_iff xs x).1 g
        exact hne.out j (by omega) e))
      go_wp2
      go_ret
      exact ⟨ret_b HN.out.symm, rfl⟩
/-! ### IsSet -/
set_option maxHeartbeats 1000000 in
set_option maxRecDepth 100000 in
theorem specIsSetBig (v : Value) (xs : List Int) (w : World) (h : Ints w v xs) (hn : xs.length ≤ 1073741824) :
    Calls Tryd.prog 33 #[v] w fun e w' => e = .returned (.bool (setB xs)) ∧ Below w.heap.size w w' := by
  have H := Lib.hid h
  obtain ⟨a, cap, rfl⟩ := ints_len h
  clear h
  go_enter Tryd.func33, Tryd.ntmps33
  go_wp2
  go_loopw [3] (fun i wr => ∃ k : Nat, k ≤ xs.length ∧ i = .int .i64 k ∧ Hid (SetTo xs k) ∧ Below w.heap.size w wr) (fun i _ => xs.length - (intOf i).toNat)
  case atStart => exact ⟨0, Nat.zero_le _, rfl, Lib.hid ⟨fun i hi => by omega, fun i hi => by omega⟩, Below.refl _ _⟩
  case round =>
    obtain ⟨k, hk, rfl, hset, hbel⟩ := hrel
    by_cases hlt : k < xs.length
    · obtain ⟨b, off, cap', hv, hbl, hc⟩ := ints_cell H.out (by omega)
      simp only [Value.slice.injEq] at hv
      obtain ⟨rfl, _, rfl⟩ := hv
      have hcell := (hbel.cell (p := ⟨b, off + k, none⟩) hbl).trans (hc k hlt)
      have i1 : (0 : Int) ≤ (k : Int) := by omega
      have i2 : (k : Int) < (xs.length : Int) := by omega
      by_cases hin : 0 ≤ xs.getD k 0 ∧ xs.getD k 0 ≤ 23
      · by_cases hz : k = 0
        · have HS : Hid (SetTo xs (k + 1)) := Lib.hid (setTo_step hset.out hin.1 hin.2 (fun g => by omega))
          obtain ⟨g0, g1⟩ := hin
          have hd : decide (0 < k) = false := by simp [hz]
          have hd2 : decide ((0 : Int) < (k : Int)) = false := by simp [hz]
          clear hc hz
          generalize xs.getD k 0 = y at hcell g0 g1
          go_wp2
          go_quiet ((go_at_call 34; exact Calls.quiet_of_same (in_yes _ _ _ _ (by omega) (by omega))))
          go_wp2
          go_roundw
          case rel => exact ⟨k + 1, by omega, by go_num, HS, below_same hbel rfl rfl rfl rfl⟩
          case measure => simp [intOf]; omega
        · have hcellp := (hbel.cell (p := ⟨b, off + (k - 1), none⟩) hbl).trans (hc (k - 1) (by omega))
          obtain ⟨g0, g1⟩ := hin
          have hd : 0 < k := by omega
          have i3 : (0 : Int) ≤ (k : Int) - 1 := by omega
          have i4 : (k : Int) - 1 < (xs.length : Int) := by omega
          have i5 : ((k : Int) - 1).toNat = k - 1 := by omega
          have e1 : IntKind.i64.wrap ((k : Int) - 1) = (k : Int) - 1 := IntWalk.i64_in _ (by omega)
          by_cases hle : xs.getD k 0 ≤ xs.getD (k - 1) 0
          · have HNO := Lib.hid (setB_no (not_set_order hlt hd (by omega)))
            clear hc hz
            generalize xs.getD (k - 1) 0 = z at hcellp hle
            generalize xs.getD k 0 = y at hcell g0 g1 hle
            have hdl : decide (y ≤ z) = true := decide_eq_true hle
            go_wp2
            go_quiet ((go_at_call 34; exact Calls.quiet_of_same (in_yes _ _ _ _ (by omega) (by omega))))
            go_wp2
            go_ret
            exact ⟨ret_b HNO.out.symm, below_same hbel rfl rfl rfl rfl⟩
          · have HS : Hid (SetTo xs (k + 1)) := Lib.hid (setTo_step hset.out g0 g1 (fun _ => by omega))
            clear hc hz
            generalize xs.getD (k - 1) 0 = z at hcellp hle
            generalize xs.getD k 0 = y at hcell g0 g1 hle
            have hdl : decide (y ≤ z) = false := decide_eq_false hle
            go_wp2
            go_quiet ((go_at_call 34; exact Calls.quiet_of_same (in_yes _ _ _ _ (by omega) (by omega))))
            go_wp2
            go_roundw
            case rel => exact ⟨k + 1, by omega, by go_num, HS, below_same hbel rfl rfl rfl rfl⟩
            case measure => simp [intOf]; omega
      · have HNO := Lib.hid (setB_no (not_set_range hlt hin))
        clear hc
        generalize xs.getD k 0 = y at hcell hin
        have HI := Lib.hid hin
        clear hin
        go_wp2
        go_quiet ((go_at_call 34; exact Calls.quiet_of_same (in_no _ _ _ _ HI.out)))
        go_wp2
        go_ret
        exact ⟨ret_b HNO.out.symm, below_same hbel rfl rfl rfl rfl⟩
    · obtain rfl : k = xs.length := by omega
      have HY := Lib.hid ((setB_iff xs).2 hset.out)
      go_wp2
      go_ret
      exact ⟨ret_b HY.out.symm, hbel⟩
theorem specIsSet (v : Value) (xs : List Int) (w : World) (h : Ints w v xs) (hn : xs.length ≤ 1048576) :
    Calls Tryd.prog 33 #[v] w fun e w' => e = .returned (.bool (setB xs)) ∧ Below w.heap.size w w' := specIsSetBig v xs w h (by omega)
end Go.Proofs.YtjeaimdnddelpaaDoor
namespace Go.Proofs.YtjeaimdnddelpaaDoor
open Go.RowKit
set_option linter.unusedVariables false
/-- Is it a row? -/
def rowB (r : RowD) : Bool := decide (0 ≤ r.1 ∧ r.1 ≤ 999) && (r.2.all (fun x => decide (0 ≤ x ∧ x ≤ 99)) && decide (r.2.length = 3))
end Go.Proofs.YtjeaimdnddelpaaDoor
namespace Go.Proofs.YtjeaimdnddelpaaDoor
open Go.RowKit
set_option linter.unusedVariables false
/-- The slice v reads as the rows rs; vs: where their values lie. -/
def RowsR (w : World) (v : Value) (rs : List RowD) : Prop :=
  (rs = [] ∧ ∃ a cap, v = .slice a 0 cap) ∨ ∃ (b off cap : Nat) (vs : Nat → Value), v = .slice (some ⟨b, off, none⟩) rs.length cap ∧ rs.length ≤ cap ∧ b < w.heap.size ∧
    ∀ j, j < rs.length → w.cell? ⟨b, off + j * 2, none⟩ = some (.int .i64 (rs.getD j (0, [])).1) ∧ w.cell? ⟨b, off + j * 2 + 1, none⟩ = some (vs j) ∧ Ints w (vs j) (rs.getD j (0, [])).2
end Go.Proofs.YtjeaimdnddelpaaDoor
namespace Go.Proofs.YtjeaimdnddelpaaDoor
open Go.RowKit
set_option linter.unusedVariables false
end Go.Proofs.YtjeaimdnddelpaaDoor
namespace Go.Proofs.YtjeaimdnddelpaaDoor
open Go.RowKit
set_option linter.unusedVariables false
theorem below_drew {B : Nat} {a w : World} (h : Below B a w) : Below B a w.drew := ⟨h.os, h.tape, h.output, h.size, h.block⟩
end Go.Proofs.YtjeaimdnddelpaaDoor
namespace Go.Proofs.YtjeaimdnddelpaaDoor
open Go.RowKit
set_option linter.unusedVariables false
end Go.Proofs.YtjeaimdnddelpaaDoor
namespace Go.Proofs.YtjeaimdnddelpaaDoor
open Go.RowKit
set_option linter.unusedVariables false
theorem below_dn {B : Nat} {a w : World} (h : Below B a w) (q : Nat) : Below B a (w.drewN q) := ⟨h.os, h.tape, h.output, h.size, h.block⟩
theorem list_ne_at {xs ys : List Int} {k : Nat} (hx : k < xs.length) (h : ¬ xs.getD k 0 = ys.getD k 0) : ¬ xs = ys := fun e => h (by rw [e])
theorem list_eq_all {xs ys : List Int} (hl : xs.length = ys.length) (h : ∀ j, j < xs.length → xs.getD j 0 = ys.getD j 0) : xs = ys := by
  apply List.ext_getElem hl
  intro i h1 h2
  have := h i h1
  simpa [List.getD, h1, h2] using this
end Go.Proofs.YtjeaimdnddelpaaDoor
namespace Go.Proofs.YtjeaimdnddelpaaDoor
open Go.RowKit
set_option linter.unusedVariables false
theorem take_runs {P : Program} {ops : Array Oper} {Q : Exit → Act → World → Prop} {md : Region.Mode} {S : World → Prop} {i : Nat} {oi : Oper} {d : Option Tmp} {v : Value} {fuel : Nat} {listed : Array Bool} {a : Act} {w : World} (hi : ops[i]? = some oi)
    (hs : Region.noSelect ops = true) (hf : Region.free md ops listed i = true) (hr : (Region.ready md ops listed).contains i = true) (hd : oi.dst = d)
    (hQ : ∀ c a w, Q (.panic c) (a.put oi.dst v) w → Q (.panic c) a w) (hw : Region.wanted oi (yielded ops a.tmps) = true) (hy : ∀ w, S w → (execOp a.eval oi).run P w = .ok (.value v) w) (hS : S w)
    (h : wpAnyH P md ops Q S fuel (listed.setIfInBounds i true) (a.put d v) w) : wpAnyH P md ops Q S (fuel + 1) listed a w := by
  subst hd
  exact wpAnyH_take hi hs hf hr hQ (Or.inl ⟨hw, hy⟩) hS h
theorem take_over {P : Program} {ops : Array Oper} {Q : Exit → Act → World → Prop} {md : Region.Mode} {S : World → Prop} {i : Nat} {oi : Oper} {d : Option Tmp} {fuel : Nat} {listed : Array Bool} {a : Act} {w : World} (hi : ops[i]? = some oi)
    (hs : Region.noSelect ops = true) (hf : Region.free md ops listed i = true) (hr : (Region.ready md ops listed).contains i = true) (hd : oi.dst = d)
    (hQ : ∀ c a w, Q (.panic c) (a.put oi.dst undef) w → Q (.panic c) a w) (hw : Region.wanted oi (yielded ops a.tmps) = false) (hS : S w)
    (h : wpAnyH P md ops Q S fuel (listed.setIfInBounds i true) (a.put d undef) w) : wpAnyH P md ops Q S (fuel + 1) listed a w := by
  subst hd
  exact wpAnyH_take hi hs hf hr hQ (Or.inr ⟨hw, rfl⟩) hS h
end Go.Proofs.YtjeaimdnddelpaaDoor
namespace Go.Proofs.YtjeaimdnddelpaaDoor
open Go.RowKit
set_option linter.unusedVariables false
set_option linter.unusedSimpArgs false
end Go.Proofs.YtjeaimdnddelpaaDoor
namespace Go.Proofs.YtjeaimdnddelpaaDoor
open Go.RowKit
set_option linter.unusedVariables false
set_option linter.unusedSimpArgs false
end Go.Proofs.YtjeaimdnddelpaaDoor
namespace Go.Proofs.YtjeaimdnddelpaaDoor
open Go.RowKit
set_option linter.unusedVariables false
end Go.Proofs.YtjeaimdnddelpaaDoor
namespace Go.Proofs.YtjeaimdnddelpaaDoor
open Go.RowKit
set_option linter.unusedVariables false
set_option linter.unusedSimpArgs false
end Go.Proofs.YtjeaimdnddelpaaDoor
namespace Go.Proofs.YtjeaimdnddelpaaDoor
open Go.RowKit
set_option linter.unusedVariables false
/-- Only blocks from B up to hi have turned. -/
structure Only (B hi : Nat) (w w' : World) : Prop where
  os : w'.os = w.os
  tape : w'.tape = w.tape
  output : w'.output = w.output
  size : w.heap.size ≤ w'.heap.size
  block : ∀ k, k < w.heap.size → (k < B ∨ hi ≤ k) → w'.heap[k]? = w.heap[k]?
theorem Only.refl (B hi : Nat) (w : World) : Only B hi w w := ⟨rfl, rfl, rfl, Nat.le_refl _, fun _ _ _ => rfl⟩
theorem Only.trans {B hi : Nat} {a b c : World} (h : Only B hi a b) (k : Only B hi b c) : Only B hi a c :=
  ⟨k.os.trans h.os, k.tape.trans h.tape, k.output.trans h.output, Nat.le_trans h.size k.size, fun i hi' hn => (k.block i (Nat.lt_of_lt_of_le hi' h.size) hn).trans (h.block i hi' hn)⟩
end Go.Proofs.YtjeaimdnddelpaaDoor
namespace Go.Proofs.YtjeaimdnddelpaaDoor
open Go.RowKit
set_option linter.unusedVariables false
end Go.Proofs.YtjeaimdnddelpaaDoor
namespace Go.Proofs.YtjeaimdnddelpaaDoor
open Go.RowKit
set_option linter.unusedVariables false
end Go.Proofs.YtjeaimdnddelpaaDoor
namespace Go.Proofs.YtjeaimdnddelpaaDoor
open Go.RowKit
set_option linter.unusedVariables false
set_option linter.unusedSimpArgs false
/-- A version: its number, values, birth and death. -/
abbrev VerD := Int × List Int × Int × Int
def v0D : VerD := (0, [], 0, 0)
def visP (born died t : Int) : Prop := born ≤ t ∧ (died = -1 ∨ t < died)
instance (a b c : Int) : Decidable (visP a b c) := by unfold visP; infer_instance
def lifeP (born died now : Int) : Prop := 0 ≤ born ∧ born ≤ now ∧ (died = -1 ∨ born < died ∧ died ≤ now)
instance (a b c : Int) : Decidable (lifeP a b c) := by unfold lifeP; infer_instance
def verB (v : VerD) (now : Int) : Bool := rowB (v.1, v.2.1) && decide (lifeP v.2.2.1 v.2.2.2 now)
def apartP (i1 b1 d1 i2 b2 d2 : Int) : Prop := i1 ≠ i2 ∨ (d1 ≠ -1 ∧ d1 ≤ b2) ∨ (d2 ≠ -1 ∧ d2 ≤ b1)
instance (a b c d e f : Int) : Decidable (apartP a b c d e f) := by unfold apartP; infer_instance
def apartB (a b : VerD) : Bool := decide (apartP a.1 a.2.2.1 a.2.2.2 b.1 b.2.2.1 b.2.2.2)
/-- Two valid versions are apart iff they are not seen together when the later one is born. -/
def seenP (i1 b1 d1 i2 b2 d2 : Int) : Prop := i1 = i2 ∧ visP b1 d1 (max b1 b2) ∧ visP b2 d2 (max b1 b2)
instance (a b c d e f : Int) : Decidable (seenP a b c d e f) := by unfold seenP; infer_instance
/-- The first n versions are valid and apart. -/
def VersP (l : List VerD) (now : Int) (n : Nat) : Prop := ∀ i, i < n → verB (l.getD i v0D) now = true ∧ ∀ k, k < i → apartB (l.getD i v0D) (l.getD k v0D) = true
instance (l : List VerD) (now : Int) (n : Nat) : Decidable (VersP l now n) := by unfold VersP; infer_instance
def ShortP (ss : List (List VerD)) (n : Nat) : Prop := ∀ i, i < n → (ss.getD i []).length ≤ 4
instance (ss : List (List VerD)) (n : Nat) : Decidable (ShortP ss n) := by unfold ShortP; infer_instance
def storeP (ss : List (List VerD)) (now : Int) : Prop := ((1 ≤ ss.length ∧ ss.length ≤ 8) ∧ (0 ≤ now ∧ now ≤ 100000)) ∧ ShortP ss ss.length ∧ VersP ss.flatten now ss.flatten.length
instance (ss : List (List VerD)) (now : Int) : Decidable (storeP ss now) := by unfold storeP; infer_instance
def storeB (ss : List (List VerD)) (now : Int) : Bool := decide (storeP ss now)
end Go.Proofs.YtjeaimdnddelpaaDoor
namespace Go.Proofs.YtjeaimdnddelpaaDoor
open Go.RowKit
set_option linter.unusedVariables false
set_option linter.unusedSimpArgs false
/-- An update: its kind, row, field and value. -/
abbrev UpdD := Int × (Int × List Int) × Int × Int
def insP (u : UpdD) : Prop := u.1 = 1 ∧ rowB u.2.1 = true ∧ u.2.2.1 = 0 ∧ u.2.2.2 = 0
def delP (u : UpdD) : Prop := u.1 = 2 ∧ (0 ≤ u.2.1.1 ∧ u.2.1.1 ≤ 999) ∧ u.2.1.2.length = 0 ∧ u.2.2.1 = 0 ∧ u.2.2.2 = 0
def setP (u : UpdD) : Prop := u.1 = 3 ∧ (0 ≤ u.2.1.1 ∧ u.2.1.1 ≤ 999) ∧ u.2.1.2.length = 0 ∧ (0 ≤ u.2.2.1 ∧ u.2.2.1 ≤ 2) ∧ (0 ≤ u.2.2.2 ∧ u.2.2.2 ≤ 99)
instance (u : UpdD) : Decidable (insP u) := by unfold insP; infer_instance
instance (u : UpdD) : Decidable (delP u) := by unfold delP; infer_instance
instance (u : UpdD) : Decidable (setP u) := by unfold setP; infer_instance
def updB (u : UpdD) : Bool := decide (insP u) || (decide (delP u) || decide (setP u))
/- Where the living version of a row lies, and where there is room. -/
def aliveB (id : Int) (v : VerD) : Bool := decide (v.1 = id ∧ v.2.2.2 = -1)
def hasB (id : Int) (l : List VerD) : Bool := l.any (aliveB id)
def segI (ss : List (List VerD)) (id : Int) : Nat := ss.findIdx (hasB id)
def freeB (l : List VerD) : Bool := decide (l.length < 4)
def roomI (ss : List (List VerD)) : Nat := ss.findIdx freeB
/- What an update makes. -/
def okP (ss : List (List VerD)) (now : Int) (u : UpdD) : Prop := storeB ss now = true ∧ updB u = true ∧ now < 100000 ∧ (u.1 = 1 ↔ ¬ segI ss u.2.1.1 < ss.length) ∧ (u.1 ≠ 2 → roomI ss < ss.length)
instance (ss : List (List VerD)) (now : Int) (u : UpdD) : Decidable (okP ss now u) := by unfold okP; infer_instance
abbrev StoreD := List (List VerD) × Int
/- A store stays valid. -/
/- Reclaiming. -/
end Go.Proofs.YtjeaimdnddelpaaDoor
namespace Go.Proofs.YtjeaimdnddelpaaDoor
open Go.RowKit
set_option linter.unusedVariables false
/-- A condition: field, low, high. -/
abbrev CondD := Int × Int × Int
/-- The slice v reads as the conditions cs. -/
def CondsR (w : World) (v : Value) (cs : List CondD) : Prop :=
  (cs = [] ∧ ∃ a cap, v = .slice a 0 cap) ∨ ∃ b off cap, v = .slice (some ⟨b, off, none⟩) cs.length cap ∧ cs.length ≤ cap ∧ b < w.heap.size ∧ ∀ j, j < cs.length →
    w.cell? ⟨b, off + j * 3, none⟩ = some (.int .i64 (cs.getD j (0, 0, 0)).1) ∧ w.cell? ⟨b, off + j * 3 + 1, none⟩ = some (.int .i64 (cs.getD j (0, 0, 0)).2.1) ∧ w.cell? ⟨b, off + j * 3 + 2, none⟩ = some (.int .i64 (cs.getD j (0, 0, 0)).2.2)
end Go.Proofs.YtjeaimdnddelpaaDoor
namespace Go.Proofs.YtjeaimdnddelpaaDoor
open Go.RowKit
set_option linter.unusedVariables false
set_option linter.unusedSimpArgs false
def condB (c : CondD) : Bool := decide (0 ≤ c.1 ∧ c.1 ≤ 2) && (decide (0 ≤ c.2.1 ∧ c.2.1 ≤ c.2.2) && decide (c.2.2 ≤ 99))
end Go.Proofs.YtjeaimdnddelpaaDoor
namespace Go.Proofs.YtjeaimdnddelpaaDoor
open Go.RowKit
set_option linter.unusedVariables false
set_option linter.unusedSimpArgs false
end Go.Proofs.YtjeaimdnddelpaaDoor
namespace Go.Proofs.YtjeaimdnddelpaaDoor
open Go.RowKit
set_option linter.unusedVariables false
set_option linter.unusedSimpArgs false
abbrev c0D : CondD := (0, 0, 0)
def condsB (cs : List CondD) : Bool := (List.range cs.length).all (fun i => condB (cs.getD i c0D) && (decide (i = 0) || decide ((cs.getD (i - 1) c0D).1 < (cs.getD i c0D).1)))
def fieldsB (os : List Int) : Bool := os.all (fun x => decide (0 ≤ x ∧ x ≤ 2)) && decide (1 ≤ os.length ∧ os.length ≤ 3)
def queryB (id tn : Int) (cs : List CondD) (os : List Int) : Bool := condsB cs && (decide (0 ≤ id ∧ id ≤ 23) && (decide (0 ≤ tn ∧ tn ≤ 3) && (decide (cs.length ≤ 3) && fieldsB os)))
end Go.Proofs.YtjeaimdnddelpaaDoor
namespace Go.Proofs.YtjeaimdnddelpaaDoor
open Go.RowKit
set_option linter.unusedVariables false
set_option linter.unusedSimpArgs false
/-- A query's data: number, tenant, conditions, fields. -/
abbrev QD := Int × Int × List CondD × List Int
def q0D : QD := (0, 0, [], [])
/-- The slice v reads as the queries qs. -/
def QueriesR (w : World) (v : Value) (qs : List QD) : Prop :=
  (qs = [] ∧ ∃ a cap, v = .slice a 0 cap) ∨ ∃ (b off cap : Nat) (vs us : Nat → Value), v = .slice (some ⟨b, off, none⟩) qs.length cap ∧ qs.length ≤ cap ∧ b < w.heap.size ∧
    ∀ j, j < qs.length → w.cell? ⟨b, off + j * 4, none⟩ = some (.int .i64 (qs.getD j q0D).1) ∧ w.cell? ⟨b, off + j * 4 + 1, none⟩ = some (.int .i64 (qs.getD j q0D).2.1) ∧ w.cell? ⟨b, off + j * 4 + 2, none⟩ = some (vs j) ∧ w.cell? ⟨b, off + j * 4 + 3, none⟩ = some (us j) ∧
      CondsR w (vs j) (qs.getD j q0D).2.2.1 ∧ Ints w (us j) (qs.getD j q0D).2.2.2
end Go.Proofs.YtjeaimdnddelpaaDoor
namespace Go.Proofs.YtjeaimdnddelpaaDoor
open Go.RowKit
set_option linter.unusedVariables false
set_option linter.unusedSimpArgs false
end Go.Proofs.YtjeaimdnddelpaaDoor
namespace Go.Proofs.YtjeaimdnddelpaaDoor
open Go.RowKit
set_option linter.unusedVariables false
set_option linter.unusedSimpArgs false
end Go.Proofs.YtjeaimdnddelpaaDoor
namespace Go.Proofs.YtjeaimdnddelpaaDoor
open Go.RowKit
set_option linter.unusedVariables false
set_option linter.unusedSimpArgs false
end Go.Proofs.YtjeaimdnddelpaaDoor
namespace Go.Proofs.YtjeaimdnddelpaaDoor
open Go.RowKit
set_option linter.unusedVariables false
/-- A span: from, to, and its set. -/
abbrev SpanD := Int × Int × List Int
abbrev p0D : SpanD := (0, 0, [])
end Go.Proofs.YtjeaimdnddelpaaDoor
namespace Go.Proofs.YtjeaimdnddelpaaDoor
open Go.RowKit
set_option linter.unusedVariables false
/-- The slice v reads as the rows rs; vs: where their values lie. -/
def SpansR (w : World) (v : Value) (rs : List SpanD) : Prop :=
  (rs = [] ∧ ∃ a cap, v = .slice a 0 cap) ∨ ∃ (b off cap : Nat) (vs : Nat → Value), v = .slice (some ⟨b, off, none⟩) rs.length cap ∧ rs.length ≤ cap ∧ b < w.heap.size ∧
    ∀ j, j < rs.length → w.cell? ⟨b, off + j * 3, none⟩ = some (.int .i64 (rs.getD j p0D).1) ∧ w.cell? ⟨b, off + j * 3 + 1, none⟩ = some (.int .i64 (rs.getD j p0D).2.1) ∧ w.cell? ⟨b, off + j * 3 + 2, none⟩ = some (vs j) ∧ Ints w (vs j) (rs.getD j p0D).2.2
end Go.Proofs.YtjeaimdnddelpaaDoor
namespace Go.Proofs.YtjeaimdnddelpaaDoor
open Go.RowKit
set_option linter.unusedVariables false
set_option linter.unusedSimpArgs false
end Go.Proofs.YtjeaimdnddelpaaDoor
namespace Go.Proofs.YtjeaimdnddelpaaDoor
open Go.RowKit
/-- Numbers in new memory are answered. -/
def FreshInts (w : World) (xs : List Int) (e : Ending) (w' : World) : Prop := ∃ v, e = .returned v ∧ OwnsN w' w.heap.size v xs ∧ Below w.heap.size w w'
end Go.Proofs.YtjeaimdnddelpaaDoor
namespace Go.Proofs.YtjeaimdnddelpaaDoor
open Go.RowKit
set_option linter.unusedVariables false
set_option linter.unusedSimpArgs false
end Go.Proofs.YtjeaimdnddelpaaDoor
namespace Go.Proofs.YtjeaimdnddelpaaDoor
open Go.RowKit
set_option linter.unusedVariables false
/-- Does the order hold each field once? -/
def orderB (os : List Int) : Bool := decide (os.length = 3) && (List.range os.length).all fun i => decide (0 ≤ os.getD i 0 ∧ os.getD i 0 ≤ 2) && !decide (os.getD i 0 ∈ os.take i)
end Go.Proofs.YtjeaimdnddelpaaDoor
namespace Go.Proofs.YtjeaimdnddelpaaDoor
open Go.RowKit
set_option linter.unusedVariables false
set_option linter.unusedSimpArgs false
abbrev ChargeD := Int × Int × List Int × List Int × List Int
abbrev ActD := QD × Int × List Int × Int × Int × Int × List RowD
abbrev FinD := QD × Int × Int × List RowD
abbrev EngD := StoreD × Int × List Int × List ActD × List FinD × List ChargeD × Int
def x0D : ChargeD := (0, 0, [], [], [])
def a0D : ActD := (q0D, 0, [], 0, 0, 0, [])
/- All of a list. -/
theorem allB_at {α : Type} {p : α → Bool} {l : List α} (d : α) (h : l.all p = true) {k : Nat} (hk : k < l.length) : p (l.getD k d) = true := by
  rw [List.all_eq_true] at h
  have e : l.getD k d = l[k] := by simp [List.getD, hk]
  rw [e]; exact h _ (List.getElem_mem hk)
theorem allB_no {α : Type} {p : α → Bool} {l : List α} (d : α) {k : Nat} (hk : k < l.length) (h : p (l.getD k d) = false) : l.all p = false := by
  rw [← Bool.not_eq_true]
  intro g
  have := allB_at d g hk
  rw [h] at this; cases this
theorem allB_yes {α : Type} {p : α → Bool} {l : List α} (d : α) (h : ∀ i, i < l.length → p (l.getD i d) = true) : l.all p = true := by
  rw [List.all_eq_true]
  intro x hx
  obtain ⟨i, hi, rfl⟩ := List.getElem_of_mem hx
  have := h i hi
  have e : l.getD i d = l[i] := by simp [List.getD, hi]
  rw [e] at this; exact this
def AllTo {α : Type} (p : α → Bool) (d : α) (l : List α) (k : Nat) : Prop := ∀ i, i < k → p (l.getD i d) = true
theorem allTo_step {α : Type} {p : α → Bool} {d : α} {l : List α} {k : Nat} (h : AllTo p d l k) (g : p (l.getD k d) = true) : AllTo p d l (k + 1) := fun i hi => by
  by_cases e : i = k
  · subst e; exact g
  · exact h i (by omega)
theorem allTo_zero {α : Type} (p : α → Bool) (d : α) (l : List α) : AllTo p d l 0 := fun i hi => absurd hi (Nat.not_lt_zero i)
/- What is valid. -/
def chargeHP (x : ChargeD) : Prop := (1 ≤ x.2.2.1.length ∧ x.2.2.1.length ≤ 8) ∧ (x.2.2.2.1.length = x.2.2.1.length ∧ x.2.2.2.2.length = x.2.2.1.length) ∧ (0 ≤ x.1 ∧ x.1 ≤ 7) ∧ (0 ≤ x.2.1 ∧ x.2.1 ≤ 4)
instance (x : ChargeD) : Decidable (chargeHP x) := by unfold chargeHP; infer_instance
def tenB (t : Int) : Bool := decide (0 ≤ t ∧ t ≤ 3)
def getB (b r : Int) : Bool := decide (0 ≤ r ∧ r ≤ b)
def chargeB (x : ChargeD) : Bool := (setB x.2.2.1 && decide (chargeHP x)) && (x.2.2.2.1.all tenB && x.2.2.2.2.all (getB x.2.1))
theorem charge_no1 {x : ChargeD} (h : setB x.2.2.1 = false) : chargeB x = false := by unfold chargeB; rw [h]; rfl
theorem charge_no2 {x : ChargeD} (h : ¬ chargeHP x) : chargeB x = false := by unfold chargeB; rw [decide_eq_false h]; simp
theorem charge_no3 {x : ChargeD} (h : x.2.2.2.1.all tenB = false) : chargeB x = false := by unfold chargeB; rw [h]; simp
theorem charge_no4 {x : ChargeD} (h : x.2.2.2.2.all (getB x.2.1) = false) : chargeB x = false := by unfold chargeB; rw [h]; simp
theorem charge_yes {x : ChargeD} (h1 : setB x.2.2.1 = true) (h2 : chargeHP x) (h3 : x.2.2.2.1.all tenB = true) (h4 : x.2.2.2.2.all (getB x.2.1) = true) : chargeB x = true := by unfold chargeB; rw [h1, decide_eq_true h2, h3, h4]; rfl
def TodoTo (l : List Int) (n : Nat) (k : Nat) : Prop := ∀ i, i < k → (0 ≤ l.getD i 0 ∧ l.getD i 0 < n) ∧ (0 < i → l.getD (i - 1) 0 < l.getD i 0)
instance (l : List Int) (n k : Nat) : Decidable (TodoTo l n k) := by unfold TodoTo; infer_instance
def todoP (l : List Int) (n : Nat) : Prop := 1 ≤ l.length ∧ TodoTo l n l.length
instance (l : List Int) (n : Nat) : Decidable (todoP l n) := by unfold todoP; infer_instance
def todoB (l : List Int) (n : Nat) : Bool := decide (todoP l n)
def listB (l : List RowD) : Bool := decide (l.length ≤ 1000) && l.all rowB
def qdB (q : QD) : Bool := queryB q.1 q.2.1 q.2.2.1 q.2.2.2
def actHP (s : StoreD) (a : ActD) : Prop := (0 ≤ a.2.1 ∧ a.2.1 ≤ s.2) ∧ (0 ≤ a.2.2.2.1 ∧ a.2.2.2.1 ≤ 100000) ∧ (0 ≤ a.2.2.2.2.1 ∧ a.2.2.2.2.1 ≤ 1000) ∧ (0 ≤ a.2.2.2.2.2.1 ∧ a.2.2.2.2.2.1 ≤ 32)
instance (s : StoreD) (a : ActD) : Decidable (actHP s a) := by unfold actHP; infer_instance
def actB (s : StoreD) (a : ActD) : Bool := (qdB a.1 && decide (actHP s a)) && (todoB a.2.2.1 s.1.length && listB a.2.2.2.2.2.2)
def finHP (now : Int) (d : FinD) : Prop := (0 ≤ d.2.1 ∧ d.2.1 ≤ now) ∧ (0 ≤ d.2.2.1 ∧ d.2.2.1 ≤ 100000)
instance (now : Int) (d : FinD) : Decidable (finHP now d) := by unfold finHP; infer_instance
def finB (now : Int) (d : FinD) : Bool := (qdB d.1 && decide (finHP now d)) && listB d.2.2.2
def ActsTo (s : StoreD) (l : List ActD) (k : Nat) : Prop := ∀ i, i < k → actB s (l.getD i a0D) = true ∧ (0 < i → (l.getD (i - 1) a0D).1.1 < (l.getD i a0D).1.1)
instance (s : StoreD) (l : List ActD) (k : Nat) : Decidable (ActsTo s l k) := by unfold ActsTo; infer_instance
def actsB (s : StoreD) (l : List ActD) : Bool := decide (ActsTo s l l.length)
def engHP (e : EngD) : Prop := (0 ≤ e.2.1 ∧ e.2.1 < e.1.1.length) ∧ e.2.2.2.1.length ≤ 8 ∧ (0 ≤ e.2.2.2.2.2.2 ∧ e.2.2.2.2.2.2 ≤ 100000) ∧ e.2.2.2.2.1.length ≤ 1000 ∧ e.2.2.2.2.2.1.length ≤ 1000
instance (e : EngD) : Decidable (engHP e) := by unfold engHP; infer_instance
def engB (e : EngD) : Bool := (storeB e.1.1 e.1.2 && (decide (engHP e) && orderB e.2.2.1)) && (actsB e.1 e.2.2.2.1 && (e.2.2.2.2.1.all (finB e.1.2) && e.2.2.2.2.2.1.all chargeB))
/- A new engine. -/
/- The active query with a number. -/
def hasA (id : Int) (a : ActD) : Bool := decide (a.1.1 = id)
def findA (l : List ActD) (id : Int) : Int := if l.findIdx (hasA id) < l.length then (l.findIdx (hasA id) : Int) else -1
/- Admission: the new query comes before the first with a greater number. -/
def limB (c : Int) : Bool := decide (0 ≤ c ∧ c ≤ 32)
def admitP (e : EngD) (q : QD) (c : Int) : Prop := engB e = true ∧ qdB q = true ∧ limB c = true ∧ findA e.2.2.2.1 q.1 = -1 ∧ e.2.2.2.1.length < 8
instance (e : EngD) (q : QD) (c : Int) : Decidable (admitP e q c) := by unfold admitP; infer_instance
/- Cancellation, updates. -/
end Go.Proofs.YtjeaimdnddelpaaDoor
namespace Go.Proofs.YtjeaimdnddelpaaDoor
open Go.RowKit
set_option linter.unusedVariables false
set_option linter.unusedSimpArgs false
def accN (f : Nat → Int) : Nat → Int
  | 0 => 0
  | k + 1 => accN f k + f k
theorem accN_succ (f : Nat → Int) (k : Nat) : accN f (k + 1) = accN f k + f k := rfl
theorem accN_bd {f : Nat → Int} {c : Int} (h : ∀ i, 0 ≤ f i ∧ f i ≤ c) (k : Nat) : 0 ≤ accN f k ∧ accN f k ≤ c * k := by
  induction k with
  | zero => exact ⟨Int.le_refl _, by simp [accN]⟩
  | succ k ih =>
    have := h k
    rw [accN_succ]
    have e : c * ((k + 1 : Nat) : Int) = c * (k : Int) + c := by rw [Int.natCast_add, Int.mul_add]; simp
    rw [e]; omega
theorem accN_bdk {f : Nat → Int} {c : Int} {n : Nat} (h : ∀ i, i < n → 0 ≤ f i ∧ f i ≤ c) {k : Nat} (hk : k ≤ n) : 0 ≤ accN f k ∧ accN f k ≤ c * k := by
  induction k with
  | zero => exact ⟨Int.le_refl _, by simp [accN]⟩
  | succ k ih =>
    have := h k (by omega)
    have := ih (by omega)
    rw [accN_succ]
    have e : c * ((k + 1 : Nat) : Int) = c * (k : Int) + c := by rw [Int.natCast_add, Int.mul_add]; simp
    rw [e]; omega
theorem accN_ext {f g : Nat → Int} {n : Nat} (h : ∀ i, i < n → f i = g i) : accN f n = accN g n := by
  induction n with
  | zero => rfl
  | succ n ih => rw [accN_succ, accN_succ, ih (fun i hi => h i (by omega)), h n (by omega)]
/- What a valid charge is. -/
theorem charge_iff {x : ChargeD} (h : chargeB x = true) : setB x.2.2.1 = true ∧ chargeHP x ∧ x.2.2.2.1.all tenB = true ∧ x.2.2.2.2.all (getB x.2.1) = true := by
  unfold chargeB at h
  simp only [Bool.and_eq_true, decide_eq_true_eq] at h
  exact ⟨h.1.1, h.1.2, h.2.1, h.2.2⟩
theorem chg_row {x : ChargeD} (h : chargeB x = true) {i : Nat} (hi : i < x.2.2.2.2.length) : 0 ≤ x.2.2.2.2.getD i 0 ∧ x.2.2.2.2.getD i 0 ≤ x.2.1 := by
  have := allB_at (0 : Int) (charge_iff h).2.2.2 hi
  exact of_decide_eq_true this
theorem chg_ten {x : ChargeD} (h : chargeB x = true) {i : Nat} (hi : i < x.2.2.2.1.length) : 0 ≤ x.2.2.2.1.getD i 0 ∧ x.2.2.2.1.getD i 0 ≤ 3 := by
  have := allB_at (0 : Int) (charge_iff h).2.2.1 hi
  exact of_decide_eq_true this
/- The shares. -/
def rowI (x : ChargeD) (i : Nat) : Int := x.2.2.2.2.getD i 0
def shareI (x : ChargeD) (i : Nat) : Int := x.2.1 / (x.2.2.1.length : Int) + x.2.2.2.2.getD i 0 + (if (i : Int) < x.2.1 % (x.2.2.1.length : Int) then 1 else 0)
def sharesTo (x : ChargeD) (k : Nat) : List Int := (List.range k).map (shareI x)
def sharesX (x : ChargeD) : List Int := if chargeB x then sharesTo x x.2.2.1.length else []
theorem sharesTo_succ (x : ChargeD) (k : Nat) : sharesTo x (k + 1) = sharesTo x k ++ [shareI x k] := by unfold sharesTo; rw [List.range_succ, List.map_append]; rfl
theorem sharesTo_len (x : ChargeD) (k : Nat) : (sharesTo x k).length = k := by unfold sharesTo; simp
theorem sharesX_yes {x : ChargeD} (h : chargeB x = true) : sharesX x = sharesTo x x.2.2.1.length := by unfold sharesX; rw [if_pos h]
theorem sharesX_no {x : ChargeD} (h : chargeB x = false) : sharesX x = [] := by unfold sharesX; rw [if_neg (by rw [h]; simp)]
theorem sharesX_len {x : ChargeD} : (sharesX x).length ≤ 8 := by
  rcases Bool.eq_false_or_eq_true (chargeB x) with h | h
  · rw [sharesX_yes h, sharesTo_len]; exact (charge_iff h).2.1.1.2
  · rw [sharesX_no h]; simp
theorem base_div {x : ChargeD} (h : chargeB x = true) : 0 ≤ x.2.1 / (x.2.2.1.length : Int) ∧ x.2.1 / (x.2.2.1.length : Int) ≤ 4 ∧ 0 ≤ x.2.1 % (x.2.2.1.length : Int) ∧ x.2.1 % (x.2.2.1.length : Int) ≤ 7 := by
  obtain ⟨_, ⟨⟨h1, h2⟩, _, _, h5, h6⟩, _, _⟩ := charge_iff h
  have p : 0 < (x.2.2.1.length : Int) := by omega
  have a := Int.emod_nonneg x.2.1 (Int.ne_of_gt p)
  have b := Int.emod_lt_of_pos x.2.1 p
  have c : 0 ≤ x.2.1 / (x.2.2.1.length : Int) := Int.ediv_nonneg h5 (by omega)
  have d : x.2.1 / (x.2.2.1.length : Int) ≤ x.2.1 := Int.ediv_le_self _ h5
  exact ⟨c, by omega, a, by omega⟩
theorem shareI_bd {x : ChargeD} (h : chargeB x = true) {i : Nat} (hi : i < x.2.2.1.length) : 0 ≤ shareI x i ∧ shareI x i ≤ 9 := by
  have a := base_div h
  obtain ⟨_, ⟨_, ⟨_, h4⟩, _, h5, h6⟩, _, _⟩ := charge_iff h
  have b := chg_row h (i := i) (by omega)
  unfold shareI
  split <;> omega
theorem shares_getD {x : ChargeD} (h : chargeB x = true) {i : Nat} (hi : i < x.2.2.1.length) : (sharesX x).getD i 0 = shareI x i := by
  rw [sharesX_yes h]; unfold sharesTo
  simp [List.getD, hi]
theorem shares_getD_no {x : ChargeD} {i : Nat} (hi : ¬ i < (sharesX x).length) : (sharesX x).getD i 0 = 0 := by
  simp [List.getD, List.getElem?_eq_none (Nat.le_of_not_lt hi)]
theorem shares_bd {x : ChargeD} (i : Nat) : 0 ≤ (sharesX x).getD i 0 ∧ (sharesX x).getD i 0 ≤ 9 := by
  rcases Bool.eq_false_or_eq_true (chargeB x) with h | h
  · by_cases hi : i < x.2.2.1.length
    · rw [shares_getD h hi]; exact shareI_bd h hi
    · rw [shares_getD_no (by rw [sharesX_yes h, sharesTo_len]; exact hi)]; omega
  · rw [sharesX_no h]; simp
/- The work. -/
def workX (x : ChargeD) : Int := if chargeB x then x.2.1 + accN (rowI x) x.2.2.2.2.length else 0
theorem workX_yes {x : ChargeD} (h : chargeB x = true) : workX x = x.2.1 + accN (rowI x) x.2.2.2.2.length := by unfold workX; rw [if_pos h]
theorem workX_no {x : ChargeD} (h : chargeB x = false) : workX x = 0 := by unfold workX; rw [if_neg (by rw [h]; simp)]
theorem rows_sum {x : ChargeD} (h : chargeB x = true) {k : Nat} (hk : k ≤ x.2.2.2.2.length) : 0 ≤ accN (rowI x) k ∧ accN (rowI x) k ≤ 4 * k := by
  obtain ⟨_, ⟨_, ⟨_, h4⟩, _, h5, h6⟩, _, _⟩ := charge_iff h
  exact accN_bdk (n := x.2.2.2.2.length) (fun i hi => by have := chg_row h hi; unfold rowI; omega) hk
theorem workX_bd (x : ChargeD) : 0 ≤ workX x ∧ workX x ≤ 36 := by
  rcases Bool.eq_false_or_eq_true (chargeB x) with h | h
  · rw [workX_yes h]
    obtain ⟨_, ⟨⟨_, h2⟩, ⟨_, h4⟩, _, h5, h6⟩, _, _⟩ := charge_iff h
    have := rows_sum h (Nat.le_refl _)
    omega
  · rw [workX_no h]; omega
def overX (f : ChargeD → Int) (l : List ChargeD) (i : Nat) : Int := f (l.getD i x0D)
def totalTo (f : ChargeD → Int) (l : List ChargeD) (k : Nat) : Int := accN (overX f l) k
def totalL (f : ChargeD → Int) (l : List ChargeD) : Int := totalTo f l l.length
theorem totalTo_succ (f : ChargeD → Int) (l : List ChargeD) (k : Nat) : totalTo f l (k + 1) = totalTo f l k + f (l.getD k x0D) := rfl
theorem totalTo_bd {f : ChargeD → Int} (h : ∀ x, 0 ≤ f x ∧ f x ≤ 72) (l : List ChargeD) (k : Nat) : 0 ≤ totalTo f l k ∧ totalTo f l k ≤ 72 * k := accN_bd (fun i => h _) k
/- What a tenant pays. -/
def tenI (ts ss : List Int) (t : Int) (i : Nat) : Int := if ts.getD i 0 = t then ss.getD i 0 else 0
def tenX (t : Int) (x : ChargeD) : Int := accN (tenI x.2.2.2.1 (sharesX x) t) (sharesX x).length
theorem tenI_bd (x : ChargeD) (t : Int) (i : Nat) : 0 ≤ tenI x.2.2.2.1 (sharesX x) t i ∧ tenI x.2.2.2.1 (sharesX x) t i ≤ 9 := by
  unfold tenI
  split
  · exact shares_bd i
  · omega
theorem tenTo_bd (x : ChargeD) (t : Int) (k : Nat) : 0 ≤ accN (tenI x.2.2.2.1 (sharesX x) t) k ∧ accN (tenI x.2.2.2.1 (sharesX x) t) k ≤ 9 * k := accN_bd (tenI_bd x t) k
theorem tenX_bd (t : Int) (x : ChargeD) : 0 ≤ tenX t x ∧ tenX t x ≤ 72 := by
  have := tenTo_bd x t (sharesX x).length
  have := @sharesX_len x
  unfold tenX; omega
/- What a coalition would cost. -/
def coI (m : Int → Bool) (ts rs : List Int) (i : Nat) : Int := if m (ts.getD i 0) then rs.getD i 0 else 0
def anyTo (m : Int → Bool) (ts : List Int) : Nat → Bool
  | 0 => false
  | k + 1 => anyTo m ts k || m (ts.getD k 0)
def coRows (m : Int → Bool) (x : ChargeD) (k : Nat) : Int := accN (coI m x.2.2.2.1 x.2.2.2.2) k
def coX (m : Int → Bool) (x : ChargeD) : Int := if chargeB x && anyTo m x.2.2.2.1 x.2.2.1.length then coRows m x x.2.2.1.length + x.2.1 else 0
theorem coX_yes {m : Int → Bool} {x : ChargeD} (h : chargeB x = true) (g : anyTo m x.2.2.2.1 x.2.2.1.length = true) : coX m x = coRows m x x.2.2.1.length + x.2.1 := by unfold coX; rw [h, g]; rfl
theorem coX_no1 {m : Int → Bool} {x : ChargeD} (h : chargeB x = false) : coX m x = 0 := by unfold coX; rw [h]; rfl
theorem coX_no2 {m : Int → Bool} {x : ChargeD} (g : anyTo m x.2.2.2.1 x.2.2.1.length = false) : coX m x = 0 := by unfold coX; rw [g]; simp
theorem coRows_yes {m : Int → Bool} {x : ChargeD} {k : Nat} (h : m (x.2.2.2.1.getD k 0) = true) : coRows m x (k + 1) = coRows m x k + x.2.2.2.2.getD k 0 := by
  show accN _ (k + 1) = _; rw [accN_succ]; unfold coI; rw [if_pos h]; rfl
theorem coRows_no {m : Int → Bool} {x : ChargeD} {k : Nat} (h : m (x.2.2.2.1.getD k 0) = false) : coRows m x (k + 1) = coRows m x k := by
  show accN _ (k + 1) = _; rw [accN_succ]; unfold coI; rw [if_neg (by rw [h]; simp)]; exact Int.add_zero _
theorem anyTo_yes {m : Int → Bool} {ts : List Int} {k : Nat} (h : m (ts.getD k 0) = true) : anyTo m ts (k + 1) = true := by show (_ || _) = true; rw [h]; simp
theorem anyTo_no {m : Int → Bool} {ts : List Int} {k : Nat} (h : m (ts.getD k 0) = false) : anyTo m ts (k + 1) = anyTo m ts k := by show (_ || _) = _; rw [h]; simp
theorem anyTo_none {m : Int → Bool} {x : ChargeD} {k : Nat} (h : anyTo m x.2.2.2.1 k = false) : coRows m x k = 0 := by
  induction k with
  | zero => rfl
  | succ k ih =>
    have h' : (anyTo m x.2.2.2.1 k || m (x.2.2.2.1.getD k 0)) = false := h
    rw [Bool.or_eq_false_iff] at h'
    rw [coRows_no h'.2, ih h'.1]
theorem coRows_bd {m : Int → Bool} {x : ChargeD} (h : chargeB x = true) {k : Nat} (hk : k ≤ x.2.2.1.length) : 0 ≤ coRows m x k ∧ coRows m x k ≤ 4 * k := by
  obtain ⟨_, ⟨_, ⟨_, h4⟩, _, h5, h6⟩, _, _⟩ := charge_iff h
  refine accN_bdk (n := x.2.2.1.length) (fun i hi => ?_) hk
  have := chg_row h (i := i) (by omega)
  unfold coI
  split <;> omega
theorem coX_bd (m : Int → Bool) (x : ChargeD) : 0 ≤ coX m x ∧ coX m x ≤ 72 := by
  rcases Bool.eq_false_or_eq_true (chargeB x) with h | h
  · rcases Bool.eq_false_or_eq_true (anyTo m x.2.2.2.1 x.2.2.1.length) with g | g
    · rw [coX_yes h g]
      obtain ⟨_, ⟨⟨_, h2⟩, ⟨_, h4⟩, _, h5, h6⟩, _, _⟩ := charge_iff h
      have := coRows_bd (m := m) h (Nat.le_refl _)
      omega
    · rw [coX_no2 g]; omega
  · rw [coX_no1 h]; omega
theorem sharesX_le (x : ChargeD) : (sharesX x).length ≤ x.2.2.2.1.length := by
  rcases Bool.eq_false_or_eq_true (chargeB x) with h | h
  · rw [sharesX_yes h, sharesTo_len]; have := (charge_iff h).2.1.2.1.1; omega
  · rw [sharesX_no h]; simp
theorem tenI_yes {ts ss : List Int} {t : Int} {i : Nat} (h : ts.getD i 0 = t) : tenI ts ss t i = ss.getD i 0 := by unfold tenI; rw [if_pos h]
theorem tenI_no {ts ss : List Int} {t : Int} {i : Nat} (h : ¬ ts.getD i 0 = t) : tenI ts ss t i = 0 := by unfold tenI; rw [if_neg h]
/- What the closure answers. -/
def shB (q r i : Int) : Int := if i < r then q + 1 else q
theorem shB_yes {q r i : Int} (h : i < r) : shB q r i = q + 1 := by unfold shB; rw [if_pos h]
theorem shB_no {q r i : Int} (h : ¬ i < r) : shB q r i = q := by unfold shB; rw [if_neg h]
theorem shB_bd {q r : Int} (i : Int) (h : 0 ≤ q ∧ q ≤ 4) : 0 ≤ shB q r i ∧ shB q r i ≤ 5 := by unfold shB; split <;> omega
theorem shareI_eq (x : ChargeD) (i : Nat) : shareI x i = x.2.2.2.2.getD i 0 + shB (x.2.1 / (x.2.2.1.length : Int)) (x.2.1 % (x.2.2.1.length : Int)) i := by
  unfold shareI shB; split <;> omega
/- Which tenants have been named. -/
def nmdTo (ts : List Int) (k : Nat) (t : Int) : Bool := decide (t ∈ ts.take k)
theorem nmdTo_zero (ts : List Int) (t : Int) : nmdTo ts 0 t = false := by unfold nmdTo; simp
theorem nmdTo_succ {ts : List Int} {k : Nat} (hk : k < ts.length) (t : Int) : nmdTo ts (k + 1) t = (nmdTo ts k t || decide (ts.getD k 0 = t)) := by
  unfold nmdTo
  have e : ts.getD k 0 = ts[k] := by simp [List.getD, hk]
  rw [List.take_succ_eq_append_getElem hk, e, Bool.eq_iff_iff]
  simp only [List.mem_append, List.mem_singleton, decide_eq_true_eq, Bool.or_eq_true]
  constructor
  · rintro (h | h)
    · exact Or.inl h
    · exact Or.inr h.symm
  · rintro (h | h)
    · exact Or.inl h
    · exact Or.inr h.symm
theorem nmdTo_all (ts : List Int) (t : Int) : nmdTo ts ts.length t = decide (t ∈ ts) := by unfold nmdTo; rw [List.take_length]
def memB (ts : List Int) (t : Int) : Bool := decide (t ∈ ts)
end Go.Proofs.YtjeaimdnddelpaaDoor
namespace Go.Proofs.YtjeaimdnddelpaaDoor
open Go.RowKit
theorem ret_strI {xs ys : List Int} (h : xs = ys) : Ending.returned (.string (strOfNums xs)) = .returned (.string (strOfNums ys)) := by rw [h]
/-- The slice v owns the bytes xs. -/
def OwnsB (w : World) (B : Nat) (v : Value) (xs : List Int) : Prop := w.ownsRow B 5 1 v xs.length (xs.map (Value.int .u8))
theorem ownsB_lit (w : World) (B : Nat) (hb : B ≤ w.heap.size) (C : Array Value) (n : Nat) (xs : List Int) (hC : C.toList = xs.map (Value.int .u8)) (hn : n = xs.length) (hm : n ≤ maxLen) :
    OwnsB (w.alloc (.cells C 5)) B (.slice (some ⟨w.heap.size, 0, none⟩) n n) xs := by
  subst hn
  have := World.ownsRow_lit (e := 5) (size := 1) w C xs.length hb hm (by have := congrArg List.length hC; simpa using this)
  rw [hC] at this
  exact this
/-- 'string(out)'. -/
theorem string_owned {w : World} {B : Nat} {v : Value} {xs : List Int} (hown : OwnsB w B v xs) : (convert 22 9 v).run Tryd.prog w = .ok (.string (strOfNums xs)) w := by
  rcases hown.2 with ⟨rfl, h0⟩ | ⟨g, cap, cur, rfl, hb, hg, _⟩
  · have : xs = [] := List.eq_nil_of_length_eq_zero h0
    subst this
    rw [run_convert_bytes_nil w 22 5 Tryd.underlying22 Tryd.underlying5 0 0 9 Tryd.underlying9]
    rfl
  · refine run_convert_bytes_arg w 22 5 Tryd.underlying22 Tryd.underlying5 g 0 xs.length cap xs rfl ?_ 9 Tryd.underlying9
    intro i hi
    have := World.ownsRow.cells hown (g := g) rfl i (.int .u8 (xs.getD i 0)) (by simp [List.getElem?_eq_getElem hi])
    have e : (⟨g, 0, none⟩ : Addr).add i = ⟨g, 0 + i, none⟩ := by unfold Addr.add; split <;> simp_all
    rwa [e] at this
/-- 'string([]byte{x})'. -/
theorem string_lit1 (w : World) (x : Int) : (convert 22 9 (.slice (some ⟨w.heap.size, 0, none⟩) 1 1)).run Tryd.prog (w.alloc (.cells #[.int .u8 x] 5)) = .ok (.string (strOfNums [x])) (w.alloc (.cells #[.int .u8 x] 5)) :=
  string_owned (B := 0) (ownsB_lit w 0 (Nat.zero_le _) #[.int .u8 x] 1 [x] rfl rfl (by decide))
theorem strOfNums_append (xs ys : List Int) : strOfNums xs ++ strOfNums ys = strOfNums (xs ++ ys) := by
  apply ByteArray.ext
  simp [strOfNums]
theorem concat_cons (x : Int) (ys : List Int) (h : ys.length ≤ 1048576) (w : World) : (Op.stringOp .add (strOfNums [x]) (strOfNums ys)).run Tryd.prog w = .ok (.string (strOfNums (x :: ys))) w := by
  rw [run_string_add_sum w _ _ (by rw [strOfNums_size, strOfNums_size]; simp; omega), strOfNums_append]
  rfl
end Go.Proofs.YtjeaimdnddelpaaDoor
namespace Go.Proofs.YtjeaimdnddelpaaDoor
open Go.RowKit
set_option linter.unusedVariables false
set_option linter.unusedSimpArgs false
/-- Only blocks in G, of those that were there, have turned. -/
structure Turn (G : Nat → Prop) (w w' : World) : Prop where
  os : w'.os = w.os
  tape : w'.tape = w.tape
  output : w'.output = w.output
  size : w.heap.size ≤ w'.heap.size
  block : ∀ k, k < w.heap.size → ¬ G k → w'.heap[k]? = w.heap[k]?
theorem Turn.refl (G : Nat → Prop) (w : World) : Turn G w w := ⟨rfl, rfl, rfl, Nat.le_refl _, fun _ _ _ => rfl⟩
theorem Turn.trans {G : Nat → Prop} {a b c : World} (h : Turn G a b) (k : Turn G b c) : Turn G a c :=
  ⟨k.os.trans h.os, k.tape.trans h.tape, k.output.trans h.output, Nat.le_trans h.size k.size, fun i hi hn => (k.block i (Nat.lt_of_lt_of_le hi h.size) hn).trans (h.block i hi hn)⟩
theorem Turn.mono {G G' : Nat → Prop} {a b : World} (h : Turn G a b) (hg : ∀ k, G k → G' k) : Turn G' a b :=
  ⟨h.os, h.tape, h.output, h.size, fun i hi hn => h.block i hi (fun g => hn (hg i g))⟩
theorem turn_grown {G : Nat → Prop} {w w' : World} {row : Option Nat} (h : w.grownBy w' row) (hr : ∀ b, row = some b → G b) : Turn G w w' :=
  ⟨h.os, h.tape, h.output, h.size, fun k hk hn => h.block k hk (fun e => hn (hr k e.symm))⟩
theorem turn_below {G : Nat → Prop} {w w' : World} (h : Below w.heap.size w w') : Turn G w w' := ⟨h.os, h.tape, h.output, h.size, fun k hk _ => h.block k hk⟩
theorem turn_set {G : Nat → Prop} {w : World} {g j : Nat} {u : Value} (h : G g) : Turn G w (w.setCell ⟨g, j, none⟩ u) :=
  ⟨rfl, rfl, rfl, by simp [World.setCell], fun k hk hn => Below.heap_setCell w _ u k (fun e => hn (by rw [e]; exact h))⟩
theorem below_turn {B : Nat} {G : Nat → Prop} {a w w' : World} (h : Below B a w) (k : Turn G w w') (hG : ∀ b, G b → B ≤ b) (hs : B ≤ w.heap.size) : Below B a w' :=
  h.trans ⟨k.os, k.tape, k.output, k.size, fun i hi => k.block i (by omega) (fun g => by have := hG i g; omega)⟩
theorem row_turn {w w' : World} {G : Nat → Prop} {B : Nat} {e : TypeId} {size : Nat} {u : Value} {n : Nat} {xs : List Value} (h : w.ownsRow B e size u n xs) (k : Turn G w w') (hd : ∀ b, u.ownBlock = some b → ¬ G b) : w'.ownsRow B e size u n xs := by
  refine ⟨h.1, ?_⟩
  rcases h.2 with hn | ⟨g, cap, cur, rfl, hb', hg, rest⟩
  · exact .inl hn
  · refine .inr ⟨g, cap, cur, rfl, hb', ?_, rest⟩
    rw [k.block g (Array.getElem?_eq_some_iff.1 hg).1 (hd g rfl)]
    exact hg
theorem row_low {w : World} {B C : Nat} {e : TypeId} {size : Nat} {v : Value} {n : Nat} {xs : List Value} (h : w.ownsRow C e size v n xs) (hb : B ≤ C) : w.ownsRow B e size v n xs := by
  refine ⟨h.1, ?_⟩
  rcases h.2 with hn | ⟨g, cap, cur, e, hb', rest⟩
  · exact .inl hn
  · exact .inr ⟨g, cap, cur, e, Nat.le_trans hb hb', rest⟩
theorem row_form {w : World} {B : Nat} {e : TypeId} {size : Nat} {v : Value} {n : Nat} {xs : List Value} (h : w.ownsRow B e size v n xs) : (v = .slice none 0 0 ∧ n = 0) ∨ ∃ g cap, v = .slice (some ⟨g, 0, none⟩) n cap ∧ g < w.heap.size := by
  rcases h.2 with h' | ⟨g, cap, cur, rfl, hb, hg, _⟩
  · exact .inl h'
  · exact .inr ⟨g, cap, rfl, (Array.getElem?_eq_some_iff.1 hg).1⟩
/-- A kind of data: how many cells; what is read; what is owned, in blocks of the set; size; marks (nd, md: in memory, numbers too; nv, mv: by value); lengths that a slice can have; how many numbers lie in the cells. -/
structure Ty (α : Type) where
  n : Nat
  d : α
  R : World → List Value → α → Prop
  O : World → (Nat → Prop) → List Value → α → Prop
  sz : α → Nat
  nd : α → Nat
  nv : α → Nat
  md : α → Int → α
  mv : α → Int → α
  ok : α → Prop
  s : Nat
structure Ty.Law {α : Type} (T : Ty α) : Prop where
  pos : 0 < T.n
  len : ∀ {w cs x}, T.R w cs x → cs.length = T.n
  below : ∀ {W w cs x}, T.R W cs x → Below W.heap.size W w → T.R w cs x
  reads : ∀ {w F cs x}, T.O w F cs x → T.R w cs x
  turn : ∀ {w w' F G cs x}, T.O w F cs x → Turn G w w' → (∀ b, F b → ¬ G b) → T.O w' F cs x
  mono : ∀ {w F F' cs x}, T.O w F cs x → (∀ b, F b → F' b) → T.O w F' cs x
  lt : ∀ {w F cs x}, T.O w F cs x → T.O w (fun b => F b ∧ b < w.heap.size) cs x
  nd_le : ∀ x, T.nd x ≤ 16 * T.sz x + T.s
  nv_le : ∀ x, T.nv x ≤ 16 * T.sz x
/- Numbers. -/
def tInt : Ty Int := { n := 1, d := 0, R := fun _ cs x => cs = [.int .i64 x], O := fun _ _ cs x => cs = [.int .i64 x], sz := fun _ => 0, nd := fun _ => 1, nv := fun _ => 0, md := fun _ k => k, mv := fun x _ => x, ok := fun _ => True, s := 1 }
theorem tInt_law : tInt.Law := ⟨by decide, fun h => by cases h; rfl, fun h _ => h, fun h => h, fun h _ _ => h, fun h _ => h, fun h => h, fun x => Nat.le_refl _, fun x => Nat.le_refl _⟩
/- Pairs. -/
def tPair {α β : Type} (a : Ty α) (b : Ty β) : Ty (α × β) where
  n := a.n + b.n
  d := (a.d, b.d)
  R := fun w cs p => ∃ c1 c2, cs = c1 ++ c2 ∧ a.R w c1 p.1 ∧ b.R w c2 p.2
  O := fun w F cs p => ∃ c1 c2 F1 F2, cs = c1 ++ c2 ∧ a.O w F1 c1 p.1 ∧ b.O w F2 c2 p.2 ∧ (∀ k, F1 k → F k) ∧ (∀ k, F2 k → F k) ∧ ∀ k, F1 k → ¬ F2 k
  sz := fun p => a.sz p.1 + b.sz p.2
  nd := fun p => a.nd p.1 + b.nd p.2
  nv := fun p => a.nv p.1 + b.nv p.2
  md := fun p k => (a.md p.1 k, b.md p.2 (k + (a.nd p.1 : Int)))
  mv := fun p k => (a.mv p.1 k, b.mv p.2 (k + (a.nv p.1 : Int)))
  ok := fun p => a.ok p.1 ∧ b.ok p.2
  s := a.s + b.s
theorem tPair_law {α β : Type} {a : Ty α} {b : Ty β} (A : a.Law) (B : b.Law) : (tPair a b).Law where
  pos := by have := A.pos; show 0 < a.n + b.n; omega
  len := fun {w cs x} h => by
    obtain ⟨c1, c2, rfl, h1, h2⟩ := h
    rw [List.length_append, A.len h1, B.len h2]; rfl
  below := fun {W w cs x} h hb => by
    obtain ⟨c1, c2, e, h1, h2⟩ := h
    exact ⟨c1, c2, e, A.below h1 hb, B.below h2 hb⟩
  reads := fun {w F cs x} h => by
    obtain ⟨c1, c2, F1, F2, e, h1, h2, _⟩ := h
    exact ⟨c1, c2, e, A.reads h1, B.reads h2⟩
  turn := fun {w w' F G cs x} h k hd => by
    obtain ⟨c1, c2, F1, F2, e, h1, h2, h3, h4, h5⟩ := h
    exact ⟨c1, c2, F1, F2, e, A.turn h1 k (fun b g => hd b (h3 b g)), B.turn h2 k (fun b g => hd b (h4 b g)), h3, h4, h5⟩
  mono := fun {w F F' cs x} h hf => by
    obtain ⟨c1, c2, F1, F2, e, h1, h2, h3, h4, h5⟩ := h
    exact ⟨c1, c2, F1, F2, e, h1, h2, fun k g => hf k (h3 k g), fun k g => hf k (h4 k g), h5⟩
  lt := fun {w F cs x} h => by
    obtain ⟨c1, c2, F1, F2, e, h1, h2, h3, h4, h5⟩ := h
    exact ⟨c1, c2, _, _, e, A.lt h1, B.lt h2, fun k g => ⟨h3 k g.1, g.2⟩, fun k g => ⟨h4 k g.1, g.2⟩, fun k g g' => h5 k g.1 g'.1⟩
  nd_le := fun x => by
    have h1 := A.nd_le x.1; have h2 := B.nd_le x.2
    show a.nd x.1 + b.nd x.2 ≤ 16 * (a.sz x.1 + b.sz x.2) + (a.s + b.s); omega
  nv_le := fun x => by
    have h1 := A.nv_le x.1; have h2 := B.nv_le x.2
    show a.nv x.1 + b.nv x.2 ≤ 16 * (a.sz x.1 + b.sz x.2); omega
theorem tPair_sz {α β : Type} (a : Ty α) (b : Ty β) (p : α × β) : (tPair a b).sz p = a.sz p.1 + b.sz p.2 := rfl
theorem tPair_nd {α β : Type} (a : Ty α) (b : Ty β) (p : α × β) : (tPair a b).nd p = a.nd p.1 + b.nd p.2 := rfl
theorem tPair_nv {α β : Type} (a : Ty α) (b : Ty β) (p : α × β) : (tPair a b).nv p = a.nv p.1 + b.nv p.2 := rfl
theorem tInt_sz (x : Int) : tInt.sz x = 0 := rfl
theorem tInt_nd (x : Int) : tInt.nd x = 1 := rfl
theorem tInt_nv (x : Int) : tInt.nv x = 0 := rfl
/- Slices. -/
section
variable {α : Type}
def SlR (T : Ty α) (w : World) (v : Value) (xs : List α) : Prop :=
  (xs = [] ∧ ∃ a cap, v = .slice a 0 cap) ∨ ∃ (b off cap : Nat) (us : Nat → List Value), v = .slice (some ⟨b, off, none⟩) xs.length cap ∧ xs.length ≤ cap ∧ b < w.heap.size ∧
    ∀ j, j < xs.length → (∀ i, i < T.n → w.cell? ⟨b, off + j * T.n + i, none⟩ = (us j)[i]?) ∧ T.R w (us j) (xs.getD j T.d)
def SlO (e : TypeId) (T : Ty α) (w : World) (F : Nat → Prop) (v : Value) (xs : List α) : Prop :=
  ∃ (L : List Value) (us : Nat → List Value) (Fs : Nat → Nat → Prop), w.ownsRow 0 e T.n v xs.length L ∧ (∀ b, v.ownBlock = some b → F b) ∧
    (∀ j, j < xs.length → (∀ i, i < T.n → L[j * T.n + i]? = (us j)[i]?) ∧ T.O w (Fs j) (us j) (xs.getD j T.d) ∧ ∀ b, Fs j b → F b ∧ v.ownBlock ≠ some b) ∧
    ∀ i j, i < xs.length → j < xs.length → i ≠ j → ∀ b, Fs i b → ¬ Fs j b
def sumN (f : α → Nat) (xs : List α) (k : Nat) : Nat := ((xs.take k).map f).sum
theorem sumN_zero (f : α → Nat) (xs : List α) : sumN f xs 0 = 0 := by simp [sumN]
theorem sumN_step (f : α → Nat) {xs : List α} {k : Nat} (d : α) (hk : k < xs.length) : sumN f xs (k + 1) = sumN f xs k + f (xs.getD k d) := by
  unfold sumN
  have e : xs.getD k d = xs[k] := by simp [List.getD, hk]
  rw [e, List.take_succ_eq_append_getElem hk, List.map_append, List.sum_append]
  simp
theorem sumN_le (f : α → Nat) {xs : List α} {k : Nat} (hk : k ≤ xs.length) : sumN f xs k ≤ sumN f xs xs.length := by
  unfold sumN
  have e : xs.take xs.length = xs.take k ++ xs.drop k := by rw [List.take_length, List.take_append_drop]
  rw [e, List.map_append, List.sum_append]
  omega
theorem sum_map_le {f g : α → Nat} {c s : Nat} (h : ∀ x, f x ≤ c * g x + s) : ∀ xs : List α, (xs.map f).sum ≤ c * (xs.map g).sum + s * xs.length
  | [] => by simp
  | x :: xs => by
    have h1 := h x
    have h2 := sum_map_le h xs
    simp only [List.map_cons, List.sum_cons, List.length_cons, Nat.mul_add, Nat.mul_one]
    omega
/-- The mark with which element j begins. -/
def kAt (T : Ty α) (xs : List α) (k : Int) (j : Nat) : Int := k + (sumN T.nd xs j : Int)
def mAt (T : Ty α) (xs : List α) (k : Int) (j : Nat) : α := T.md (xs.getD j T.d) (kAt T xs k j)
def mAll (T : Ty α) (xs : List α) (k : Int) : List α := (List.range xs.length).map (mAt T xs k)
def zTo (T : Ty α) (xs : List α) (k : Nat) : Nat := xs.length + sumN T.sz xs k
def zL (T : Ty α) (xs : List α) : Nat := zTo T xs xs.length
def ndL (T : Ty α) (xs : List α) : Nat := sumN T.nd xs xs.length
def tSl (e : TypeId) (T : Ty α) : Ty (List α) where
  n := 1
  d := []
  R := fun w cs xs => ∃ v, cs = [v] ∧ SlR T w v xs
  O := fun w F cs xs => ∃ v, cs = [v] ∧ SlO e T w F v xs
  sz := zL T
  nd := ndL T
  nv := ndL T
  md := mAll T
  mv := mAll T
  ok := fun xs => (xs.length : Int) ≤ 9223372036854775807 ∧ ∀ j, j < xs.length → T.ok (xs.getD j T.d)
  s := 0
theorem tSl_sz (e : TypeId) (T : Ty α) (xs : List α) : (tSl e T).sz xs = zL T xs := rfl
theorem tSl_nd (e : TypeId) (T : Ty α) (xs : List α) : (tSl e T).nd xs = ndL T xs := rfl
theorem tSl_nv (e : TypeId) (T : Ty α) (xs : List α) : (tSl e T).nv xs = ndL T xs := rfl
theorem slR_len {T : Ty α} {w : World} {v : Value} {xs : List α} (h : SlR T w v xs) : ∃ a cap, v = .slice a xs.length cap := by
  rcases h with ⟨rfl, a, cap, rfl⟩ | ⟨b, off, cap, us, rfl, _⟩
  · exact ⟨a, cap, rfl⟩
  · exact ⟨_, cap, rfl⟩
theorem slR_below {T : Ty α} (A : T.Law) {W w : World} {v : Value} {xs : List α} (h : SlR T W v xs) (hb : Below W.heap.size W w) : SlR T w v xs := by
  rcases h with h | ⟨b, off, cap, us, h1, h2, h3, h4⟩
  · exact Or.inl h
  · exact Or.inr ⟨b, off, cap, us, h1, h2, Nat.lt_of_lt_of_le h3 hb.size, fun j hj => ⟨fun i hi => (hb.cell (p := ⟨b, off + j * T.n + i, none⟩) h3).trans ((h4 j hj).1 i hi), A.below (h4 j hj).2 hb⟩⟩
theorem slR_at {T : Ty α} {w : World} {v : Value} {xs : List α} (h : SlR T w v xs) {k : Nat} (hk : k < xs.length) : ∃ (b off cap : Nat) (cs : List Value), v = .slice (some ⟨b, off, none⟩) xs.length cap ∧ b < w.heap.size ∧ (∀ i, i < T.n → w.cell? ⟨b, off + k * T.n + i, none⟩ = cs[i]?) ∧ T.R w cs (xs.getD k T.d) := by
  rcases h with ⟨rfl, _⟩ | ⟨b, off, cap, us, h1, h2, h3, h4⟩
  · simp at hk
  · exact ⟨b, off, cap, us k, h1, h3, (h4 k hk).1, (h4 k hk).2⟩
theorem slO_reads {e : TypeId} {T : Ty α} (A : T.Law) {w : World} {F : Nat → Prop} {v : Value} {xs : List α} (h : SlO e T w F v xs) : SlR T w v xs := by
  obtain ⟨L, us, Fs, h1, _, h2, _⟩ := h
  have h1' := h1
  rcases h1.2 with ⟨rfl, hn⟩ | ⟨g, cap, cur, rfl, hb, hg, hn, hm, hcs, htake⟩
  · exact Or.inl ⟨List.eq_nil_of_length_eq_zero hn, none, 0, rfl⟩
  · refine Or.inr ⟨g, 0, cap, us, rfl, hn, (Array.getElem?_eq_some_iff.1 hg).1, fun j hj => ⟨fun i hi => ?_, A.reads (h2 j hj).2.1⟩⟩
    have hlt : j * T.n + i < xs.length * T.n := by
      have : (j + 1) * T.n ≤ xs.length * T.n := Nat.mul_le_mul_right _ hj
      rw [Nat.add_mul, Nat.one_mul] at this; omega
    rw [Nat.zero_add, World.ownsRow.cellAt h1' _ hlt]
    exact (h2 j hj).1 i hi
theorem slO_turn {e : TypeId} {T : Ty α} (A : T.Law) {w w' : World} {F G : Nat → Prop} {v : Value} {xs : List α} (h : SlO e T w F v xs) (k : Turn G w w') (hd : ∀ b, F b → ¬ G b) : SlO e T w' F v xs := by
  obtain ⟨L, us, Fs, h1, h2, h3, h4⟩ := h
  exact ⟨L, us, Fs, row_turn h1 k (fun b hb => hd b (h2 b hb)), h2, fun j hj => ⟨(h3 j hj).1, A.turn (h3 j hj).2.1 k (fun b hb => hd b ((h3 j hj).2.2 b hb).1), (h3 j hj).2.2⟩, h4⟩
theorem slO_mono {e : TypeId} {T : Ty α} {w : World} {F F' : Nat → Prop} {v : Value} {xs : List α} (h : SlO e T w F v xs) (hf : ∀ b, F b → F' b) : SlO e T w F' v xs := by
  obtain ⟨L, us, Fs, h1, h2, h3, h4⟩ := h
  exact ⟨L, us, Fs, h1, fun b hb => hf b (h2 b hb), fun j hj => ⟨(h3 j hj).1, (h3 j hj).2.1, fun b hb => ⟨hf b ((h3 j hj).2.2 b hb).1, ((h3 j hj).2.2 b hb).2⟩⟩, h4⟩
theorem slO_lt {e : TypeId} {T : Ty α} (A : T.Law) {w : World} {F : Nat → Prop} {v : Value} {xs : List α} (h : SlO e T w F v xs) : SlO e T w (fun b => F b ∧ b < w.heap.size) v xs := by
  obtain ⟨L, us, Fs, h1, h2, h3, h4⟩ := h
  exact ⟨L, us, fun j b => Fs j b ∧ b < w.heap.size, h1, fun b hb => ⟨h2 b hb, (h1.lt b hb).2⟩, fun j hj => ⟨(h3 j hj).1, A.lt (h3 j hj).2.1, fun b hb => ⟨⟨((h3 j hj).2.2 b hb.1).1, hb.2⟩, ((h3 j hj).2.2 b hb.1).2⟩⟩, fun i j hi hj hij b hb hc => h4 i j hi hj hij b hb.1 hc.1⟩
theorem slO_nil (e : TypeId) (T : Ty α) (w : World) (F : Nat → Prop) : SlO e T w F (.slice none 0 0) [] :=
  ⟨[], fun _ => [], fun _ _ => False, World.ownsRow_nil w 0 _ _, fun b hb => by simp [Value.ownBlock] at hb, fun j hj => by simp at hj, fun i j hi => by simp at hi⟩
theorem slO_form {e : TypeId} {T : Ty α} {w : World} {F : Nat → Prop} {v : Value} {xs : List α} (h : SlO e T w F v xs) : (v = .slice none 0 0 ∧ xs = []) ∨ ∃ g cap, v = .slice (some ⟨g, 0, none⟩) xs.length cap ∧ F g ∧ g < w.heap.size := by
  obtain ⟨L, us, Fs, h1, h2, _⟩ := h
  rcases row_form h1 with ⟨e, h0⟩ | ⟨g, cap, e, hg⟩
  · exact Or.inl ⟨e, List.eq_nil_of_length_eq_zero h0⟩
  · exact Or.inr ⟨g, cap, e, h2 g (by rw [e]; rfl), hg⟩
theorem slO_len {e : TypeId} {T : Ty α} {w : World} {F : Nat → Prop} {v : Value} {xs : List α} (h : SlO e T w F v xs) : ∃ a cap, v = .slice a xs.length cap := by
  rcases slO_form h with ⟨e, e'⟩ | ⟨g, cap, e, _⟩
  · exact ⟨none, 0, by rw [e, e']; rfl⟩
  · exact ⟨_, cap, e⟩
theorem zTo_zero (T : Ty α) (xs : List α) : zTo T xs 0 = xs.length := by simp [zTo, sumN_zero]
theorem zTo_step {T : Ty α} {xs : List α} {k : Nat} (hk : k < xs.length) : zTo T xs (k + 1) = zTo T xs k + T.sz (xs.getD k T.d) := by
  unfold zTo; rw [sumN_step T.sz T.d hk]; omega
theorem zTo_le {T : Ty α} {xs : List α} {k : Nat} (hk : k ≤ xs.length) : zTo T xs k ≤ zL T xs := by
  unfold zL zTo; have := sumN_le T.sz hk; omega
theorem zL_at {T : Ty α} {xs : List α} {M : Nat} (hs : zL T xs ≤ M) {k : Nat} (hk : k < xs.length) : T.sz (xs.getD k T.d) ≤ M := by
  have h1 := zTo_step (T := T) hk
  have h2 := zTo_le (T := T) (xs := xs) (k := k + 1) (by omega)
  omega
theorem zL_len {T : Ty α} {xs : List α} {M : Nat} (hs : zL T xs ≤ M) : xs.length ≤ M := by
  have := zTo_le (T := T) (xs := xs) (Nat.zero_le _); rw [zTo_zero] at this; omega
theorem ndL_le {T : Ty α} (A : T.Law) (hs : T.s ≤ 16) (xs : List α) : ndL T xs ≤ 16 * zL T xs := by
  have := sum_map_le A.nd_le xs
  have h2 : T.s * xs.length ≤ 16 * xs.length := Nat.mul_le_mul_right _ hs
  unfold ndL zL zTo sumN
  rw [List.take_length]
  omega
theorem tSl_law {e : TypeId} {T : Ty α} (A : T.Law) (hs : T.s ≤ 16) : (tSl e T).Law where
  pos := Nat.one_pos
  len := fun {w cs x} h => by obtain ⟨v, rfl, _⟩ := h; rfl
  below := fun {W w cs x} h hb => by obtain ⟨v, e, h⟩ := h; exact ⟨v, e, slR_below A h hb⟩
  reads := fun {w F cs x} h => by obtain ⟨v, e, h⟩ := h; exact ⟨v, e, slO_reads A h⟩
  turn := fun {w w' F G cs x} h k hd => by obtain ⟨v, e, h⟩ := h; exact ⟨v, e, slO_turn A h k hd⟩
  mono := fun {w F F' cs x} h hf => by obtain ⟨v, e, h⟩ := h; exact ⟨v, e, slO_mono h hf⟩
  lt := fun {w F cs x} h => by obtain ⟨v, e, h⟩ := h; exact ⟨v, e, slO_lt A h⟩
  nd_le := fun x => ndL_le A hs x
  nv_le := fun x => ndL_le A hs x
end
/-- New blocks: those since w. -/
def since (w : World) : Nat → Prop := fun b => w.heap.size ≤ b
end Go.Proofs.YtjeaimdnddelpaaDoor
namespace Go.Proofs.YtjeaimdnddelpaaDoor
open Go.RowKit
set_option linter.unusedVariables false
set_option linter.unusedSimpArgs false
/-- Something that lies in blocks of its own. -/
structure Item where
  F : Nat → Prop
  φ : World → Prop
  st : ∀ {w w' : World} {G : Nat → Prop}, φ w → Turn G w w' → (∀ b, F b → ¬ G b) → φ w'
/-- A slice. -/
def iS {α : Type} {T : Ty α} (e : TypeId) (L : T.Law) (F : Nat → Prop) (v : Value) (xs : List α) : Item := ⟨F, fun w => SlO e T w F v xs, fun h t d => slO_turn L h t d⟩
/-- A block known whole. -/
def iB (b : Nat) (cs : List Value) (t : TypeId) : Item :=
  ⟨fun k => k = b, fun w => w.heap[b]? = some (.cells cs.toArray t (0, 0)), fun h t d => (t.block b (Array.getElem?_eq_some_iff.1 h).1 (d b rfl)).trans h⟩
def Sep : List Item → World → Prop
  | [], _ => True
  | i :: l, w => i.φ w ∧ (∀ b, i.F b → b < w.heap.size ∧ ∀ j, j ∈ l → ¬ j.F b) ∧ Sep l w
theorem Sep.lt : ∀ {l : List Item} {w : World}, Sep l w → ∀ i ∈ l, ∀ b, i.F b → b < w.heap.size
  | _ :: _, _, h, i, hi, b, hb => by
    rcases List.mem_cons.1 hi with rfl | hm
    · exact (h.2.1 b hb).1
    · exact Sep.lt h.2.2 i hm b hb
theorem Sep.turn : ∀ {l : List Item} {w w' : World} {G : Nat → Prop}, Sep l w → Turn G w w' → (∀ i ∈ l, ∀ b, i.F b → ¬ G b) → Sep l w'
  | [], _, _, _, _, _, _ => trivial
  | i :: l, w, w', G, h, t, d => ⟨i.st h.1 t (d i List.mem_cons_self), fun b hb => ⟨Nat.lt_of_lt_of_le (h.2.1 b hb).1 t.size, (h.2.1 b hb).2⟩, Sep.turn h.2.2 t (fun j hj => d j (List.mem_cons_of_mem _ hj))⟩
theorem Sep.get : ∀ {l : List Item} {w : World}, Sep l w → ∀ (k : Nat) {i : Item}, l[k]? = some i → i.φ w
  | i :: l, w, h, 0, j, e => by simp at e; subst e; exact h.1
  | i :: l, w, h, k + 1, j, e => Sep.get h.2.2 k (by simpa using e)
theorem Sep.apart : ∀ {l : List Item} {w : World}, Sep l w → ∀ (k : Nat) {i : Item}, l[k]? = some i → ∀ (n : Nat) {j : Item}, l[n]? = some j → k ≠ n → ∀ b, i.F b → ¬ j.F b
  | i :: l, w, h, 0, x, e, 0, y, e', hn, b, hb => absurd rfl hn
  | i :: l, w, h, 0, x, e, n + 1, y, e', hn, b, hb => by simp at e e'; subst e; exact (h.2.1 b hb).2 y (List.mem_of_getElem? e')
  | i :: l, w, h, k + 1, x, e, 0, y, e', hn, b, hb => by simp at e e'; subst e'; exact fun hy => (h.2.1 b hy).2 x (List.mem_of_getElem? e) hb
  | i :: l, w, h, k + 1, x, e, n + 1, y, e', hn, b, hb => by simp at e e'; exact Sep.apart h.2.2 k e n e' (fun q => hn (by rw [q])) b hb
theorem Sep.set : ∀ {l : List Item} {w w' : World}, Sep l w → ∀ (k : Nat) {i : Item}, l[k]? = some i → ∀ (i' : Item), (∀ b, i'.F b → i.F b) → Turn i.F w w' → i'.φ w' → Sep (l.set k i') w'
  | i :: l, w, w', h, 0, x, e, i', hF, t, hp => by
    simp at e; subst e
    exact ⟨hp, fun b hb => ⟨Nat.lt_of_lt_of_le (h.2.1 b (hF b hb)).1 t.size, (h.2.1 b (hF b hb)).2⟩, h.2.2.turn t (fun j hj b hb hc => (h.2.1 b hc).2 j hj hb)⟩
  | i :: l, w, w', h, k + 1, x, e, i', hF, t, hp => by
    simp at e
    have hx := List.mem_of_getElem? e
    refine ⟨i.st h.1 t (fun b hb => (h.2.1 b hb).2 x hx), fun b hb => ⟨Nat.lt_of_lt_of_le (h.2.1 b hb).1 t.size, fun j hj => ?_⟩, Sep.set h.2.2 k e i' hF t hp⟩
    rcases List.mem_or_eq_of_mem_set hj with q | rfl
    · exact (h.2.1 b hb).2 j q
    · exact fun q => (h.2.1 b hb).2 x hx (hF b q)
/-- Where a walk stands: since w0 it has turned nothing that was there, and owns what is listed. -/
structure St (w0 : World) (l : List Item) (w : World) : Prop where
  d : Below w0.heap.size w0 w
  s : Sep l w
  lo : ∀ i ∈ l, ∀ b, i.F b → w0.heap.size ≤ b
theorem St.init (w : World) : St w [] w := ⟨Below.refl _ _, trivial, fun _ h => by cases h⟩
section
variable {w0 w w' : World} {l : List Item}
theorem St.le (h : St w0 l w) : w0.heap.size ≤ w.heap.size := h.d.size
theorem St.below (h : St w0 l w) (c : Below w.heap.size w w') : St w0 l w' :=
  ⟨h.d.trans (c.mono h.d.size), h.s.turn (turn_below c) (fun _ _ _ _ => not_false), h.lo⟩
theorem St.drew (h : St w0 l w) : St w0 l w.drew := h.below ⟨rfl, rfl, rfl, Nat.le_refl _, fun _ _ => rfl⟩
theorem St.cons (h : St w0 l w) (c : Below w.heap.size w w') (i : Item) (hi : i.φ w') (hF : ∀ b, i.F b → w.heap.size ≤ b ∧ b < w'.heap.size) : St w0 (i :: l) w' :=
  ⟨(h.below c).d, ⟨hi, fun b hb => ⟨(hF b hb).2, fun j hj q => by have h1 := h.s.lt j hj b q; have h2 := (hF b hb).1; omega⟩, (h.below c).s⟩, fun j hj b hb => by
    rcases List.mem_cons.1 hj with rfl | hm
    · exact Nat.le_trans h.d.size (hF b hb).1
    · exact h.lo j hm b hb⟩
theorem St.box (h : St w0 l w) (cs : List Value) (t : TypeId) : St w0 (iB w.heap.size cs t :: l) (w.alloc (.cells cs.toArray t)) :=
  h.cons ((Below.refl _ _).alloc (Nat.le_refl _) _) (iB w.heap.size cs t) (heap_alloc_new w _) (fun b hb => by have hb : b = w.heap.size := hb; subst hb; exact ⟨Nat.le_refl _, by rw [World.size_alloc]; omega⟩)
theorem St.get (h : St w0 l w) (k : Nat) {i : Item} (e : l[k]? = some i) : i.φ w := h.s.get k e
theorem St.set (h : St w0 l w) (k : Nat) {i : Item} (e : l[k]? = some i) (i' : Item) (hF : ∀ b, i'.F b → i.F b) (t : Turn i.F w w') (hp : i'.φ w') : St w0 (l.set k i') w' :=
  ⟨below_turn h.d t (fun b hb => h.lo i (List.mem_of_getElem? e) b hb) h.d.size, h.s.set k e i' hF t hp, fun j hj b hb => by
    rcases List.mem_or_eq_of_mem_set hj with q | rfl
    · exact h.lo j q b hb
    · exact h.lo i (List.mem_of_getElem? e) b (hF b hb)⟩
theorem Sep.sub {l : List Item} {w : World} (h : Sep l w) : ∀ (idx : List Nat), idx.Nodup → Sep (idx.filterMap fun i => l[i]?) w
  | [], _ => trivial
  | k :: idx, hn => by
    have ih := Sep.sub h idx (List.nodup_cons.1 hn).2
    cases e : l[k]? with
    | none => rw [List.filterMap_cons_none e]; exact ih
    | some i =>
      rw [List.filterMap_cons_some e]
      refine ⟨h.get k e, fun b hb => ⟨h.lt i (List.mem_of_getElem? e) b hb, fun j hj => ?_⟩, ih⟩
      obtain ⟨n, hm, hj'⟩ := List.mem_filterMap.1 hj
      exact h.apart k e n hj' (fun q => (List.nodup_cons.1 hn).1 (by rw [q]; exact hm)) b hb
theorem St.sub (h : St w0 l w) (idx : List Nat) (hn : idx.Nodup) : St w0 (idx.filterMap fun i => l[i]?) w :=
  ⟨h.d, h.s.sub idx hn, fun i hi b hb => by
    obtain ⟨n, _, hj'⟩ := List.mem_filterMap.1 hi
    exact h.lo i (List.mem_of_getElem? hj') b hb⟩
theorem St.tail {i : Item} (h : St w0 (i :: l) w) : St w0 l w := ⟨h.d, h.s.2.2, fun j hj => h.lo j (List.mem_cons_of_mem _ hj)⟩
end
section
variable {w0 w w' : World} {l : List Item} {α : Type} {T : Ty α}
theorem St.gS {L : T.Law} {t : TypeId} (h : St w0 l w) (k : Nat) {F : Nat → Prop} {v : Value} {xs : List α} (e : l[k]? = some (iS t L F v xs)) : SlO t T w F v xs := h.s.get k e
theorem St.rS {L : T.Law} {t : TypeId} (h : St w0 l w) (k : Nat) {F : Nat → Prop} {v : Value} {xs : List α} (e : l[k]? = some (iS t L F v xs)) : SlR T w v xs := slO_reads L (h.s.get k e)
theorem St.gB (h : St w0 l w) (k : Nat) {b : Nat} {cs : List Value} {t : TypeId} (e : l[k]? = some (iB b cs t)) : w.heap[b]? = some (.cells cs.toArray t (0, 0)) := h.s.get k e
end
section
variable {w0 w w' : World} {l : List Item}
theorem Sep.upd : ∀ {l : List Item} {w w' : World}, Sep l w → ∀ (k : Nat) {i : Item}, l[k]? = some i → ∀ (i' : Item), (∀ b, i'.F b → i.F b ∨ w.heap.size ≤ b) → (∀ b, i'.F b → b < w'.heap.size) → Turn i.F w w' → i'.φ w' → Sep (l.set k i') w'
  | i :: l, w, w', h, 0, x, e, i', hF, hl, t, hp => by
    simp at e; subst e
    refine ⟨hp, fun b hb => ⟨hl b hb, fun j hj q => ?_⟩, h.2.2.turn t (fun j hj b hb hc => (h.2.1 b hc).2 j hj hb)⟩
    rcases hF b hb with r | r
    · exact (h.2.1 b r).2 j hj q
    · have := h.2.2.lt j hj b q; omega
  | i :: l, w, w', h, k + 1, x, e, i', hF, hl, t, hp => by
    simp at e
    have hx := List.mem_of_getElem? e
    refine ⟨i.st h.1 t (fun b hb => (h.2.1 b hb).2 x hx), fun b hb => ⟨Nat.lt_of_lt_of_le (h.2.1 b hb).1 t.size, fun j hj => ?_⟩, Sep.upd h.2.2 k e i' hF hl t hp⟩
    rcases List.mem_or_eq_of_mem_set hj with q | rfl
    · exact (h.2.1 b hb).2 j q
    · intro q
      rcases hF b q with r | r
      · exact (h.2.1 b hb).2 x hx r
      · have := (h.2.1 b hb).1; omega
theorem St.upd (h : St w0 l w) (k : Nat) {i : Item} (e : l[k]? = some i) (i' : Item) (hF : ∀ b, i'.F b → i.F b ∨ w.heap.size ≤ b) (hl : ∀ b, i'.F b → b < w'.heap.size) (t : Turn i.F w w') (hp : i'.φ w') : St w0 (l.set k i') w' :=
  ⟨below_turn h.d t (fun b hb => h.lo i (List.mem_of_getElem? e) b hb) h.d.size, h.s.upd k e i' hF hl t hp, fun j hj b hb => by
    rcases List.mem_or_eq_of_mem_set hj with q | rfl
    · exact h.lo j q b hb
    · rcases hF b hb with r | r
      · exact h.lo i (List.mem_of_getElem? e) b r
      · exact Nat.le_trans h.d.size r⟩
/-- A slice has grown by an append. -/
theorem St.appS {α : Type} {T : Ty α} {L : T.Law} {t : TypeId} (h : St w0 l w) (k : Nat) {F G : Nat → Prop} {v v' : Value} {xs ys : List α} (e : l[k]? = some (iS t L F v xs)) (o : SlO t T w' G v' ys) (n : Turn F w w') (hG : ∀ b, G b → F b ∨ w.heap.size ≤ b) : ∃ F', St w0 (l.set k (iS t L F' v' ys)) w' :=
  ⟨_, h.upd k e (iS t L (fun b => G b ∧ b < w'.heap.size) v' ys) (fun b hb => hG b hb.1) (fun b hb => hb.2) n (slO_lt L o)⟩
theorem St.cell (h : St w0 l w) (k : Nat) {b : Nat} {cs : List Value} {t : TypeId} (e : l[k]? = some (iB b cs t)) (j : Nat) {u : Value} (hu : cs[j]? = some u) : w.cell? ⟨b, j, none⟩ = some u := (cell_of_row w b j _ _ _ (h.gB k e)).trans (by simpa using hu)
theorem St.froz (h : St w0 l w) (k : Nat) {b : Nat} {cs : List Value} {t : TypeId} (e : l[k]? = some (iB b cs t)) (j : Nat) : w.frozen? ⟨b, j, none⟩ = false := frozen_of_row w b j _ _ (h.gB k e)
end
/-- One number in a block. -/
theorem slR_num {w : World} {b : Nat} {t : TypeId} {f : Nat × Nat} {x : Int} (h : w.heap[b]? = some (.cells #[.int .i64 x] t f)) : SlR tInt w (.slice (some ⟨b, 0, none⟩) 1 1) [x] :=
  Or.inr ⟨b, 0, 1, fun _ => [.int .i64 x], rfl, Nat.le_refl _, (Array.getElem?_eq_some_iff.1 h).1, fun j hj => by
    obtain rfl : j = 0 := by simpa using hj
    refine ⟨fun i hi => ?_, rfl⟩
    obtain rfl : i = 0 := by have : i < 1 := hi; omega
    simp [World.cell?, h]⟩
/-- Each cell of what is read is one cell. -/
def Ty.One {α : Type} (T : Ty α) : Prop := ∀ {w cs x}, T.R w cs x → ∀ v ∈ cs, v.oneCell' = true
theorem tInt_one : tInt.One := fun {w cs x} h v hv => by
  have h : cs = [.int .i64 x] := h
  subst h; simp at hv; subst hv; rfl
theorem tPair_one {α β : Type} {a : Ty α} {b : Ty β} (A : a.One) (B : b.One) : (tPair a b).One := fun {w cs x} h v hv => by
  obtain ⟨c1, c2, rfl, h1, h2⟩ := h
  rcases List.mem_append.1 hv with q | q
  · exact A h1 v q
  · exact B h2 v q
theorem tSl_one {α : Type} (e : TypeId) (T : Ty α) : (tSl e T).One := fun {w cs x} h v hv => by
  obtain ⟨u, rfl, h⟩ := h
  obtain ⟨a, c, rfl⟩ := slR_len h
  simp at hv; subst hv; rfl
/-- A block known whole is read whole. -/
theorem load_cells {P : Program} {w : World} {b : Nat} {cs : List Value} {t : TypeId} {f : Nat × Nat} (h : w.heap[b]? = some (.cells cs.toArray t f)) {n : Nat} (hn : cs.length = n) : (loadCellsFrom ⟨b, 0, none⟩ 0 n #[]).run P w = .ok cs.toArray w := by
  subst hn
  have := run_loadCells_list (P := P) w ⟨b, 0, none⟩ cs (fun j v hj => by
    have e : (⟨b, 0, none⟩ : Addr).add j = ⟨b, j, none⟩ := by unfold Addr.add; split <;> simp_all
    rw [e]
    simp [World.cell?, h, hj])
  simpa [loadCells] using this
theorem St.ld {P : Program} {w0 w : World} {l : List Item} (h : St w0 l w) (k : Nat) {b : Nat} {cs : List Value} {t : TypeId} (e : l[k]? = some (iB b cs t)) {n : Nat} (hn : cs.length = n) : (loadCellsFrom ⟨b, 0, none⟩ 0 n #[]).run P w = .ok cs.toArray w := load_cells (h.gB k e) hn
theorem box_set {w : World} {b : Nat} {z c : List Value} {t : TypeId} (h : w.heap[b]? = some (.cells z.toArray t (0, 0))) : (w.setRow b c.toArray).heap[b]? = some (.cells c.toArray t (0, 0)) := setRow_heap w b z.toArray c.toArray t (0, 0) h
theorem turn_row {w : World} {b : Nat} {c : Array Value} : Turn (fun k => k = b) w (w.setRow b c) :=
  ⟨rfl, rfl, rfl, by simp [World.setRow], fun k _ hn => by
    simp only [World.setRow]
    rw [Array.getElem?_modify]
    rw [if_neg (fun e => hn e.symm)]⟩
theorem St.store {w0 w : World} {l : List Item} (h : St w0 l w) (k : Nat) {b : Nat} {z : List Value} {t : TypeId} (e : l[k]? = some (iB b z t)) (c : List Value) : St w0 (l.set k (iB b c t)) (w.setRow b c.toArray) :=
  h.set k e (iB b c t) (fun _ q => q) turn_row (box_set (h.gB k e))
end Go.Proofs.YtjeaimdnddelpaaDoor
namespace Go.Proofs.YtjeaimdnddelpaaDoor
open Go.RowKit
set_option linter.unusedVariables false
set_option linter.unusedSimpArgs false
abbrev tIntS : Ty (List Int) := tSl 3 tInt
theorem tIntS_law : tIntS.Law := tSl_law tInt_law (by decide)
theorem ints_slR {w : World} {v : Value} {xs : List Int} (h : Ints w v xs) : SlR tInt w v xs := by
  rcases h with h | ⟨b, off, cap, h1, h2, h3, h4⟩
  · exact Or.inl h
  · refine Or.inr ⟨b, off, cap, fun j => [.int .i64 (xs.getD j 0)], h1, h2, h3, fun j hj => ⟨fun i hi => ?_, rfl⟩⟩
    have hi0 : i < 1 := hi
    obtain rfl : i = 0 := by omega
    have e : off + j * tInt.n + 0 = off + j := by show off + j * 1 + 0 = _; omega
    rw [e, h4 j hj]; rfl
theorem slR_ints {w : World} {v : Value} {xs : List Int} (h : SlR tInt w v xs) : Ints w v xs := by
  rcases h with h | ⟨b, off, cap, us, h1, h2, h3, h4⟩
  · exact Or.inl h
  · refine Or.inr ⟨b, off, cap, h1, h2, h3, fun j hj => ?_⟩
    have h5 := (h4 j hj).1 0 (by decide)
    have h6 : us j = [.int .i64 (xs.getD j 0)] := (h4 j hj).2
    have e : off + j * tInt.n + 0 = off + j := by show off + j * 1 + 0 = _; omega
    rw [e, h6] at h5
    exact h5
theorem zL_flat {α : Type} {T : Ty α} (h : ∀ x, T.sz x = 0) (xs : List α) : zL T xs = xs.length := by
  unfold zL zTo sumN
  have : ∀ l : List α, (l.map T.sz).sum = 0 := fun l => by
    induction l with
    | nil => rfl
    | cons x l ih => rw [List.map_cons, List.sum_cons, h x, ih]
  rw [this]; rfl
theorem zL_ints (xs : List Int) : zL tInt xs = xs.length := zL_flat (fun _ => rfl) xs
theorem slO_own {w : World} {F : Nat → Prop} {v : Value} {xs : List Int} (h : SlO 3 tInt w F v xs) : OwnsN w 0 v xs ∧ ∀ b, v.ownBlock = some b → F b := by
  obtain ⟨L, us, Fs, h1, h2, h3, h4⟩ := h
  refine ⟨?_, h2⟩
  have e : L = xs.map (Value.int .i64) := by
    apply List.ext_getElem?
    intro i
    by_cases hi : i < xs.length
    · obtain ⟨g1, g2, _⟩ := h3 i hi
      have g3 := g1 0 (by decide)
      have g4 : us i = [.int .i64 (xs.getD i 0)] := g2
      have e : i * tInt.n + 0 = i := by show i * 1 + 0 = _; omega
      rw [e, g4] at g3
      rw [g3]
      simp [List.getD, hi]
    · have hl : L.length = xs.length * 1 := h1.1
      rw [List.getElem?_eq_none (by omega), List.getElem?_eq_none (by simp; omega)]
  rw [e] at h1
  exact h1
theorem own_slO {w : World} {F : Nat → Prop} {v : Value} {xs : List Int} {B : Nat} (h : OwnsN w B v xs) (hF : ∀ b, v.ownBlock = some b → F b) : SlO 3 tInt w F v xs := by
  refine ⟨_, fun j => [.int .i64 (xs.getD j 0)], fun _ _ => False, row_low h (Nat.zero_le _), hF, fun j hj => ⟨fun i hi => ?_, rfl, fun b hb => False.elim hb⟩, fun i j _ _ _ b hb => False.elim hb⟩
  have hi0 : i < 1 := hi
  obtain rfl : i = 0 := by omega
  have e : j * tInt.n + 0 = j := by show j * 1 + 0 = _; omega
  rw [e]
  simp [List.getD, hj]
end Go.Proofs.YtjeaimdnddelpaaDoor
namespace Go.Proofs.YtjeaimdnddelpaaDoor
open Go.RowKit
set_option linter.unusedVariables false
set_option linter.unusedSimpArgs false
/-- What the table of types says of the element. -/
def ElemInfo {α : Type} (T : Ty α) (e : TypeId) (z : Value) : Prop := ∃ i, Tryd.prog.info? e = some i ∧ i.zero = some z ∧ i.size = T.n ∧ i.bytes ≤ 512
theorem elemInfo_of {α : Type} {T : Ty α} {e : TypeId} {z : Value} (h : (Tryd.prog.info? e).map (fun i => (i.zero, i.size, decide (i.bytes ≤ 512))) = some (some z, T.n, true)) : ElemInfo T e z := by
  cases q : Tryd.prog.info? e with
  | none => rw [q] at h; simp at h
  | some i => rw [q] at h; simp only [Option.map_some, Option.some.injEq, Prod.mk.injEq, decide_eq_true_eq] at h; exact ⟨i, q, h.1, h.2.1, h.2.2⟩
theorem addr_add (b o j : Nat) : (⟨b, o, none⟩ : Addr).add j = ⟨b, o + j, none⟩ := by unfold Addr.add; split <;> simp_all
/-- The cells of a slice that is read, in a row. -/
theorem slR_cells {α : Type} {T : Ty α} {w : World} {b off cap m : Nat} {xs : List α} (A : T.Law) (h : SlR T w (.slice (some ⟨b, off, none⟩) m cap) xs) (hp : 0 < xs.length) :
    m = xs.length ∧ b < w.heap.size ∧ ∃ L : List Value, L.length = xs.length * T.n ∧ (∀ j u, L[j]? = some u → w.cell? ⟨b, off + j, none⟩ = some u) ∧ ∀ j, j < xs.length → ∃ cs, T.R w cs (xs.getD j T.d) ∧ ∀ i, i < T.n → L[j * T.n + i]? = cs[i]? := by
  rcases h with ⟨rfl, _⟩ | ⟨b', off', cap', us, hv, h2, h3, h4⟩
  · simp at hp
  · simp only [Value.slice.injEq, Option.some.injEq, Addr.mk.injEq] at hv
    obtain ⟨⟨rfl, rfl, _⟩, rfl, rfl⟩ := hv
    have hpos := A.pos
    have hlen : ∀ j, j < xs.length → (us j).length = T.n := fun j hj => A.len (h4 j hj).2
    refine ⟨rfl, h3, (List.range (xs.length * T.n)).map (fun k => (us (k / T.n)).getD (k % T.n) undef), by simp, fun j u hj => ?_, fun j hj => ⟨us j, (h4 j hj).2, fun i hi => ?_⟩⟩
    · have hjl : j < xs.length * T.n := by
        have := (List.getElem?_eq_some_iff.1 hj).1
        simpa using this
      rw [List.getElem?_map, List.getElem?_range hjl] at hj
      simp only [Option.map_some, Option.some.injEq] at hj
      have hq : j / T.n < xs.length := (Nat.div_lt_iff_lt_mul hpos).2 hjl
      have hm : j % T.n < T.n := Nat.mod_lt _ hpos
      have e : off + j / T.n * T.n + j % T.n = off + j := by
        have := Nat.div_add_mod j T.n
        rw [Nat.mul_comm] at this; omega
      have hc := (h4 _ hq).1 _ hm
      rw [e, List.getElem?_eq_getElem (by rw [hlen _ hq]; exact hm)] at hc
      rw [hc, ← hj]
      simp [List.getD, hlen _ hq, hm]
    · have hlt : j * T.n + i < xs.length * T.n := by
        have : (j + 1) * T.n ≤ xs.length * T.n := Nat.mul_le_mul_right _ hj
        rw [Nat.add_mul, Nat.one_mul] at this; omega
      have e1 : (j * T.n + i) / T.n = j := by rw [Nat.mul_comm, Nat.mul_add_div hpos, Nat.div_eq_of_lt hi]; omega
      have e2 : (j * T.n + i) % T.n = i := by rw [Nat.mul_comm, Nat.mul_add_mod, Nat.mod_eq_of_lt hi]
      rw [List.getElem?_map, List.getElem?_range hlt]
      simp only [Option.map_some, e1, e2]
      rw [List.getElem?_eq_getElem (by rw [hlen j hj]; exact hi)]
      simp [List.getD, hlen j hj, hi]
/-- Plain data: what is read may be owned. -/
def Flat {α : Type} (T : Ty α) : Prop := (∀ {w w' : World} {F : Nat → Prop} {cs : List Value} {x : α}, T.R w cs x → T.O w' F cs x) ∧ ∀ {w : World} {cs : List Value} {x : α}, T.R w cs x → ∀ u ∈ cs, u.oneCell' = true
theorem flat_int : Flat tInt := ⟨fun h => h, fun h u hu => by rw [show _ = [Value.int .i64 _] from h] at hu; simp at hu; rw [hu]; rfl⟩
/-- What lies in slices of plain data that the call made, element by element. -/
theorem slO_flat {α : Type} {T : Ty α} (A : T.Law) (hfl : Flat T) {e : TypeId} {w : World} {F : Nat → Prop} {v : Value} {xs : List α} {L : List Value} {B : Nat} (h : w.ownsRow B e T.n v xs.length L) (hF : ∀ b, v.ownBlock = some b → F b)
    (hL : ∀ j, j < xs.length → ∃ cs, T.R w cs (xs.getD j T.d) ∧ ∀ i, i < T.n → L[j * T.n + i]? = cs[i]?) : SlO e T w F v xs := by
  haveI : Inhabited (List Value) := ⟨[]⟩
  obtain ⟨f, hf⟩ := Go.Deep.choose_lt (α := List Value) (n := xs.length) (p := fun j cs => T.R w cs (xs.getD j T.d) ∧ ∀ i, i < T.n → L[j * T.n + i]? = cs[i]?) hL
  exact ⟨L, f, fun _ _ => False, row_low h (Nat.zero_le _), hF, fun j hj => ⟨(hf j hj).2, hfl.1 (hf j hj).1, fun b hb => False.elim hb⟩, fun i j _ _ _ b hb => False.elim hb⟩
theorem run_append_flat {α : Type} {T : Ty α} (A : T.Law) (hfl : Flat T) {e t : TypeId} {z : Value} (I : ElemInfo T e z) (ht : Tryd.prog.underlying t = some (.slice e)) (hz : z.cells.size = T.n)
    {w : World} {F0 F : Nat → Prop} {v u : Value} {xs ys : List α} (ty : TypeId) (hown : SlO e T w F0 v xs) (hu : SlR T w u ys) (h0 : ∀ b, F0 b → F b) (hf : F w.heap.size) (h63 : xs.length + ys.length ≤ 2097152) :
    ∃ v' w', (Builtin.append_ #[t, t] ty #[v, u]).run Tryd.prog w = .ok v' w' ∧ SlO e T w' F v' (xs ++ ys) ∧ w.grownBy w' v.ownBlock := by
  obtain ⟨i0, hi, hz0, hz1, hz2⟩ := I
  have hpos := A.pos
  by_cases hp : 0 < ys.length
  · obtain ⟨a', cap', rfl⟩ := slR_len hu
    rcases hu with ⟨rfl, _⟩ | hu'
    · simp at hp
    · have hu : SlR T w (.slice a' ys.length cap') ys := Or.inr hu'
      obtain ⟨b, off, cap2, us, hv, _⟩ := hu'
      simp only [Value.slice.injEq] at hv
      obtain ⟨rfl, _, rfl⟩ := hv
      obtain ⟨_, hbl, N, hN, hNc, hNr⟩ := slR_cells A hu hp
      obtain ⟨L, us2, Fs, g1, g2, g3, g4⟩ := hown
      have hb : (xs.length + ys.length) * i0.bytes ≤ 2097152 * 512 := Nat.mul_le_mul h63 hz2
      obtain ⟨v', w', hr, k1, k2, _, k4⟩ := run_append_own_at (P := Tryd.prog) w 0 t ty e i0 z T.n i0.bytes ht hi hz0 hz1 rfl hz hpos v xs.length _ g1 ⟨b, off, none⟩ ys.length cap' N hN (fun j q hj => by rw [addr_add]; exact hNc j q hj) (fun q hq => by
        obtain ⟨k, hk, rfl⟩ := List.getElem_of_mem hq
        have hkl : k < ys.length * T.n := by omega
        have hq : k / T.n < ys.length := (Nat.div_lt_iff_lt_mul hpos).2 hkl
        have hm : k % T.n < T.n := Nat.mod_lt _ hpos
        obtain ⟨cs, hR, hc⟩ := hNr _ hq
        have e1 : k / T.n * T.n + k % T.n = k := by
          have := Nat.div_add_mod k T.n
          rw [Nat.mul_comm] at this; exact this
        have h5 := hc _ hm
        rw [e1, List.getElem?_eq_getElem hk, List.getElem?_eq_getElem (by rw [A.len hR]; exact hm)] at h5
        rw [Option.some.inj h5]
        exact hfl.2 hR _ (List.getElem_mem _)) (by unfold maxLen; omega) (by omega) (Nat.zero_le _)
      refine ⟨v', w', hr, ?_, k2⟩
      have hLl : L.length = xs.length * T.n := g1.1
      refine slO_flat A hfl (by rw [List.length_append]; exact k1) (fun c hc => ?_) (fun j hj => ?_)
      · rcases k4 with q | q
        · exact h0 c (g2 c (q ▸ hc))
        · rw [q] at hc; rw [← Option.some.inj hc]; exact hf
      · rw [List.length_append] at hj
        by_cases hlt : j < xs.length
        · have er : (xs ++ ys).getD j T.d = xs.getD j T.d := by simp [List.getD, List.getElem?_append_left hlt]
          obtain ⟨c1, c2, _⟩ := g3 j hlt
          refine ⟨us2 j, by rw [er]; exact A.reads (hfl.1 (w' := w') (F := F) (A.reads c2)), fun i hi => ?_⟩
          have hl2 : j * T.n + i < L.length := by
            have : (j + 1) * T.n ≤ xs.length * T.n := Nat.mul_le_mul_right _ hlt
            rw [Nat.add_mul, Nat.one_mul] at this; omega
          rw [List.getElem?_append_left hl2]
          exact c1 i hi
        · obtain ⟨m, rfl⟩ : ∃ m, j = xs.length + m := ⟨j - xs.length, by omega⟩
          have hm : m < ys.length := by omega
          have er : (xs ++ ys).getD (xs.length + m) T.d = ys.getD m T.d := by simp [List.getD, List.getElem?_append_right]
          obtain ⟨cs, hR, hc⟩ := hNr m hm
          refine ⟨cs, by rw [er]; exact A.reads (hfl.1 (w' := w') (F := F) hR), fun i hi => ?_⟩
          have e1 : (xs.length + m) * T.n + i = L.length + (m * T.n + i) := by rw [hLl, Nat.add_mul]; omega
          rw [e1, List.getElem?_append_right (by omega), Nat.add_sub_cancel_left]
          exact hc i hi
  · have hy : ys = [] := List.eq_nil_of_length_eq_zero (by omega)
    subst hy
    obtain ⟨a', cap', rfl⟩ := slR_len hu
    have hs : Src Tryd.prog i0.size t (.slice a' 0 cap') 0 [] w := by
      cases a' with
      | none => exact Src.ofNil w ht cap'
      | some ad => exact Src.ofSlice w ht ad 0 cap' [] (by simp) (by simp) (by simp)
    obtain ⟨a, cap, hv, hle⟩ : ∃ a cap, v = .slice a xs.length cap ∧ xs.length ≤ cap := by
      obtain ⟨L, us2, Fs, g1, _⟩ := hown
      rcases g1.2 with ⟨rfl, q⟩ | ⟨g, cap, cur, rfl, _, _, hn, _⟩
      · exact ⟨none, 0, by rw [q], by omega⟩
      · exact ⟨_, cap, rfl, hn⟩
    subst hv
    exact ⟨_, _, run_append_nothing w t t ty e i0 ht hi a xs.length cap hle _ hs, by rw [List.append_nil]; exact slO_mono hown h0, World.grownBy.refl _ _⟩
theorem step_append_flat {α : Type} {T : Ty α} (A : T.Law) (hfl : Flat T) {e t : TypeId} {z : Value} (I : ElemInfo T e z) (ht : Tryd.prog.underlying t = some (.slice e)) (hz : z.cells.size = T.n)
    {w : World} {ops : Array Oper} {o : Oper} {a : Act} {K : Act → World → Prop} {Q : Exit → Act → World → Prop} {E : Prop} (hwa : Region.wanted o (yielded ops a.tmps) = true) (s x : Operand)
    (ho : o.op = .call { callee := .builtin .append, args := #[s, x], argTypes := #[t, t] })
    (F0 F : Nat → Prop) (v u : Value) (xs ys : List α) (hs : a.eval s = v) (hx : a.eval x = u) (hown : SlO e T w F0 v xs) (hu : SlR T w u ys) (h0 : ∀ b, F0 b → F b) (hf : F w.heap.size) (h63 : xs.length + ys.length ≤ 2097152)
    (h : ∀ v' w', SlO e T w' F v' (xs ++ ys) → Turn F0 w w' → K (a.put o.dst v') w') : if Region.wanted o (yielded ops a.tmps) = true then Oper.wp Tryd.prog o a w K Q else E := by
  rw [if_pos hwa]
  have hblk : ∀ b, v.ownBlock = some b → F0 b := by obtain ⟨L, us2, Fs, g1, g2, _⟩ := hown; exact g2
  obtain ⟨v', w', hr, h2, h3⟩ := run_append_flat A hfl I ht hz o.type hown hu h0 hf h63
  unfold Oper.wp execOp
  simp only [ho, resolve, invoke, builtin, Sem.run_bind, Sem.run_pure, Result.andThen_ok, List.map_toArray, List.map_cons, List.map_nil, hs, hx, hr]
  exact h v' w' h2 (turn_grown h3 hblk)
theorem append_flat {α : Type} {T : Ty α} (A : T.Law) (hfl : Flat T) {e t : TypeId} {z : Value} (I : ElemInfo T e z) (ht : Tryd.prog.underlying t = some (.slice e)) (hz : z.cells.size = T.n)
    {w : World} {ops : Array Oper} {rest : List Oper} {o : Oper} {a : Act} {Q : Exit → Act → World → Prop} (hgd : o.guard = none) (s x : Operand)
    (ho : o.op = .call { callee := .builtin .append, args := #[s, x], argTypes := #[t, t] })
    (F0 F : Nat → Prop) (v u : Value) (xs ys : List α) (hs : a.eval s = v) (hx : a.eval x = u) (hown : SlO e T w F0 v xs) (hu : SlR T w u ys) (h0 : ∀ b, F0 b → F b) (hf : F w.heap.size) (h63 : xs.length + ys.length ≤ 2097152)
    (h : ∀ v' w', SlO e T w' F v' (xs ++ ys) → Turn F0 w w' → wpList Tryd.prog ops Q rest (a.put o.dst v') w') : wpList Tryd.prog ops Q (o :: rest) a w := by
  refine wpList_plain hgd fun K hK => ?_
  have hblk : ∀ b, v.ownBlock = some b → F0 b := by obtain ⟨L, us2, Fs, g1, g2, _⟩ := hown; exact g2
  obtain ⟨v', w', hr, h2, h3⟩ := run_append_flat A hfl I ht hz o.type hown hu h0 hf h63
  unfold Oper.wp execOp
  simp only [ho, resolve, invoke, builtin, Sem.run_bind, Sem.run_pure, Result.andThen_ok, List.map_toArray, List.map_cons, List.map_nil, hs, hx, hr]
  exact hK _ _ (h v' w' h2 (turn_grown h3 hblk))
/-- 'T{}' as a slice: no element yet. -/
theorem slO_empty {α : Type} {T : Ty α} (w : World) (e : TypeId) (F : Nat → Prop) (h : F w.heap.size) : SlO e T (w.alloc (.cells #[] e)) F (.slice (some ⟨w.heap.size, 0, none⟩) 0 0) [] := by
  refine ⟨[], fun _ => [], fun _ _ => False, ?_, fun b hb => ?_, fun j hj => by simp at hj, fun i j hi => by simp at hi⟩
  · have := World.ownsRow_made (base := 0) (e := e) (size := T.n) w #[] 0 (Nat.zero_le _) (by unfold maxLen; omega) (by simp)
    exact this
  · simp [Value.ownBlock] at hb; rw [← hb]; exact h
end Go.Proofs.YtjeaimdnddelpaaDoor
namespace Go.Proofs.YtjeaimdnddelpaaDoor
open Go.RowKit
set_option linter.unusedVariables false
set_option linter.unusedSimpArgs false
theorem St.empty {α : Type} {T : Ty α} (L : T.Law) {w0 w : World} {l : List Item} (h : St w0 l w) (e : TypeId) : St w0 (iS e L (fun b => b = w.heap.size) (.slice (some ⟨w.heap.size, 0, none⟩) 0 0) [] :: l) (w.alloc (.cells #[] e)) :=
  h.cons ((Below.refl _ _).alloc (Nat.le_refl _) _) (iS e L (fun b => b = w.heap.size) _ []) (slO_empty w e _ rfl) (fun b hb => by have hb : b = w.heap.size := hb; subst hb; exact ⟨Nat.le_refl _, by rw [World.size_alloc]; omega⟩)
theorem St.none {α : Type} {T : Ty α} (L : T.Law) {w0 w : World} {l : List Item} (h : St w0 l w) (e : TypeId) : St w0 (iS e L (fun _ => False) (.slice none 0 0) [] :: l) w :=
  h.cons (Below.refl _ _) (iS e L (fun _ => False) _ []) (slO_nil _ _ _ _) (fun b hb => False.elim hb)
theorem St.alloc {w0 w : World} {l : List Item} (h : St w0 l w) (o : Obj) : St w0 l (w.alloc o) := h.below ((Below.refl _ _).alloc (Nat.le_refl _) _)
end Go.Proofs.YtjeaimdnddelpaaDoor
namespace Go.Proofs.YtjeaimdnddelpaaDoor
open Go.RowKit
set_option linter.unusedVariables false
set_option linter.unusedSimpArgs false
theorem Sep.append : ∀ {is l : List Item} {w : World}, Sep is w → Sep l w → (∀ j ∈ is, ∀ b, j.F b → ∀ k ∈ l, ¬ k.F b) → Sep (is ++ l) w
  | [], _, _, _, g, _ => g
  | i :: is, l, w, h, g, d => ⟨h.1, fun b hb => ⟨(h.2.1 b hb).1, fun j hj => by
      rcases List.mem_append.1 hj with q | q
      · exact (h.2.1 b hb).2 j q
      · exact d i List.mem_cons_self b hb j q⟩, Sep.append h.2.2 g (fun j hj => d j (List.mem_cons_of_mem _ hj))⟩
theorem Sep.right : ∀ {is l : List Item} {w : World}, Sep (is ++ l) w → Sep l w
  | [], _, _, h => h
  | _ :: is, l, w, h => Sep.right (is := is) h.2.2
theorem Sep.cross : ∀ {is l : List Item} {w : World}, Sep (is ++ l) w → ∀ j ∈ is, ∀ b, j.F b → ∀ k ∈ l, ¬ k.F b
  | i :: is, l, w, h, j, hj, b, hb, k, hk => by
    rcases List.mem_cons.1 hj with rfl | q
    · exact (h.2.1 b hb).2 k (List.mem_append_right _ hk)
    · exact Sep.cross (is := is) h.2.2 j q b hb k hk
section
variable {w0 w : World} {l : List Item}
theorem St.split {i : Item} (h : St w0 (i :: l) w) (is : List Item) (s : Sep is w) (sub : ∀ j ∈ is, ∀ b, j.F b → i.F b) : St w0 (is ++ l) w :=
  ⟨h.d, s.append h.s.2.2 (fun j hj b hb k hk => (h.s.2.1 b (sub j hj b hb)).2 k hk), fun j hj b hb => by
    rcases List.mem_append.1 hj with q | q
    · exact h.lo i List.mem_cons_self b (sub j q b hb)
    · exact h.lo j (List.mem_cons_of_mem _ q) b hb⟩
theorem St.join (is : List Item) (h : St w0 (is ++ l) w) (i : Item) (p : i.φ w) (sub : ∀ b, i.F b → ∃ j ∈ is, j.F b) : St w0 (i :: l) w :=
  ⟨h.d, ⟨p, fun b hb => by
    obtain ⟨j, hj, hb⟩ := sub b hb
    exact ⟨h.s.lt j (List.mem_append_left _ hj) b hb, fun k hk => Sep.cross h.s j hj b hb k hk⟩, h.s.right⟩, fun j hj b hb => by
    rcases List.mem_cons.1 hj with rfl | q
    · obtain ⟨m, hm, hb⟩ := sub b hb
      exact h.lo m (List.mem_append_left _ hm) b hb
    · exact h.lo j (List.mem_append_right _ q) b hb⟩
end
end Go.Proofs.YtjeaimdnddelpaaDoor
namespace Go.Proofs.YtjeaimdnddelpaaDoor
open Go.RowKit
set_option linter.unusedVariables false
set_option linter.unusedSimpArgs false
/-- Which operation a goal is about. -/
inductive Tok : Nat → Prop
  | mk (i : Nat) : Tok i
section
variable {P : Program} {md : Region.Mode} {ops : Array Oper} {Q : Exit → Act → World → Prop} {S : World → Prop} {fuel : Nat} {listed : Array Bool} {a : Act} {w : World}
theorem uA {α : Type} (xs : List α) (i : Nat) : xs.toArray[i]? = xs[i]? := List.getElem?_toArray
theorem uB {α : Type} (a : α) (l : List α) (i : Nat) : (a :: l)[i + 1]? = l[i]? := List.getElem?_cons_succ
theorem uC {α : Type} (a : α) (l : List α) : (a :: l)[0]? = some a := List.getElem?_cons_zero
theorem uQ (i : Nat) {oi : Oper} {d : Option Tmp} {v : Value} (h : wpAnyH P md ops Q S fuel (listed.setIfInBounds i true) (a.put d v) w) (hr : (Region.ready md ops listed).contains i = true := by decide +kernel)
    (hi : ops[i]? = some oi := by (simp only [uA, uB, uC]; rfl)) (hs : Region.noSelect ops = true := by kernel_rfl) (hf : Region.free md ops listed i = true := by kernel_rfl) (hd : oi.dst = d := by rfl)
    (hQ : ∀ c a w, Q (.panic c) (a.put oi.dst v) w → Q (.panic c) a w := by exact fun _ _ _ h => h) (hw : Region.wanted oi (yielded ops a.tmps) = true := by rfl) (hS : S w := by assumption)
    (hy : ∀ w, S w → (execOp a.eval oi).run P w = .ok (.value v) w := by (intro w hSw; (try dsimp only at hSw); go_simp; try (with_reducible rfl))) : wpAnyH P md ops Q S (fuel + 1) listed a w := take_runs hi hs hf hr hd hQ hw hy hS h
theorem u1 (i : Nat) {o : Oper} (h : ∀ K' : Act → World → Prop, Shut (∀ a w, S w → (S w → wpAnyH P md ops Q S fuel (listed.setIfInBounds i true) a w) → K' a w) → Tok i → if Region.wanted o (yielded ops a.tmps) = true then Oper.wp P o a w K' Q else K' (a.put o.dst undef) w)
    (hr : Region.ready md ops listed = [i] := by decide +kernel) (ho : ops[i]? = some o := by (simp only [uA, uB, uC]; rfl)) : wpAnyH P md ops Q S (fuel + 1) listed a w :=
  wpAnyH_ready hr (by simp) (AllReadyH.cons ho (fun K hK => h K hK (.mk i)) AllReadyH.nil)
theorem u2 (i j : Nat) {o p : Oper} (h : ∀ K' : Act → World → Prop, Shut (∀ a w, S w → (S w → wpAnyH P md ops Q S fuel (listed.setIfInBounds i true) a w) → K' a w) → Tok i → if Region.wanted o (yielded ops a.tmps) = true then Oper.wp P o a w K' Q else K' (a.put o.dst undef) w)
    (g : ∀ K' : Act → World → Prop, Shut (∀ a w, S w → (S w → wpAnyH P md ops Q S fuel (listed.setIfInBounds j true) a w) → K' a w) → Tok j → if Region.wanted p (yielded ops a.tmps) = true then Oper.wp P p a w K' Q else K' (a.put p.dst undef) w)
    (hr : Region.ready md ops listed = [i, j] := by decide +kernel) (ho : ops[i]? = some o := by (simp only [uA, uB, uC]; rfl)) (hp : ops[j]? = some p := by (simp only [uA, uB, uC]; rfl)) : wpAnyH P md ops Q S (fuel + 1) listed a w :=
  wpAnyH_ready hr (by simp) (AllReadyH.cons ho (fun K hK => h K hK (.mk i)) (AllReadyH.cons hp (fun K hK => g K hK (.mk j)) AllReadyH.nil))
theorem u3 (i j k : Nat) {o p q : Oper} (h : ∀ K' : Act → World → Prop, Shut (∀ a w, S w → (S w → wpAnyH P md ops Q S fuel (listed.setIfInBounds i true) a w) → K' a w) → Tok i → if Region.wanted o (yielded ops a.tmps) = true then Oper.wp P o a w K' Q else K' (a.put o.dst undef) w)
    (g : ∀ K' : Act → World → Prop, Shut (∀ a w, S w → (S w → wpAnyH P md ops Q S fuel (listed.setIfInBounds j true) a w) → K' a w) → Tok j → if Region.wanted p (yielded ops a.tmps) = true then Oper.wp P p a w K' Q else K' (a.put p.dst undef) w)
    (f : ∀ K' : Act → World → Prop, Shut (∀ a w, S w → (S w → wpAnyH P md ops Q S fuel (listed.setIfInBounds k true) a w) → K' a w) → Tok k → if Region.wanted q (yielded ops a.tmps) = true then Oper.wp P q a w K' Q else K' (a.put q.dst undef) w)
    (hr : Region.ready md ops listed = [i, j, k] := by decide +kernel) (ho : ops[i]? = some o := by (simp only [uA, uB, uC]; rfl)) (hp : ops[j]? = some p := by (simp only [uA, uB, uC]; rfl)) (hq : ops[k]? = some q := by (simp only [uA, uB, uC]; rfl)) : wpAnyH P md ops Q S (fuel + 1) listed a w :=
  wpAnyH_ready hr (by simp) (AllReadyH.cons ho (fun K hK => h K hK (.mk i)) (AllReadyH.cons hp (fun K hK => g K hK (.mk j)) (AllReadyH.cons hq (fun K hK => f K hK (.mk k)) AllReadyH.nil)))
theorem uZ (h : Q .normal a w) (hr : Region.ready md ops listed = [] := by decide +kernel) : wpAnyH P md ops Q S fuel listed a w := wpAnyH_done hr h _
end
theorem zs (w : World) (o : Obj) : w.heap.size < (w.alloc o).heap.size := by simp [World.size_alloc]
end Go.Proofs.YtjeaimdnddelpaaDoor
namespace Go.Proofs.YtjeaimdnddelpaaDoor
open Go.RowKit
set_option linter.unusedVariables false
set_option linter.unusedSimpArgs false
def tCharge : Ty (Int × Int × List Int × List Int × List Int) := tPair tInt (tPair tInt (tPair tIntS (tPair tIntS tIntS)))
theorem tCharge_law : tCharge.Law := tPair_law tInt_law (tPair_law tInt_law (tPair_law tIntS_law (tPair_law tIntS_law tIntS_law)))
theorem tCharge_R {w : World} {cs : List Value} {a0 : Int} {a1 : Int} {x2 : List Int} {x3 : List Int} {x4 : List Int} (h : tCharge.R w cs (a0, a1, x2, x3, x4)) : ∃ v2 v3 v4, cs = [.int .i64 a0, .int .i64 a1, v2, v3, v4] ∧ SlR tInt w v2 x2 ∧ SlR tInt w v3 x3 ∧ SlR tInt w v4 x4 := by
  obtain ⟨_, _, rfl, rfl, ⟨_, _, rfl, rfl, ⟨_, _, rfl, ⟨v2, rfl, h2⟩, ⟨_, _, rfl, ⟨v3, rfl, h3⟩, ⟨v4, rfl, h4⟩⟩⟩⟩⟩ := h
  exact ⟨_, _, _, rfl, h2, h3, h4⟩
theorem tCharge_mkR {w : World} {a0 : Int} {a1 : Int} {x2 : List Int} {x3 : List Int} {x4 : List Int} {v2 v3 v4 : Value} (h2 : SlR tInt w v2 x2) (h3 : SlR tInt w v3 x3) (h4 : SlR tInt w v4 x4) : tCharge.R w [.int .i64 a0, .int .i64 a1, v2, v3, v4] (a0, a1, x2, x3, x4) := ⟨[.int .i64 a0], [.int .i64 a1, v2, v3, v4], rfl, rfl, ⟨[.int .i64 a1], [v2, v3, v4], rfl, rfl, ⟨[v2], [v3, v4], rfl, ⟨_, rfl, h2⟩, ⟨[v3], [v4], rfl, ⟨_, rfl, h3⟩, ⟨_, rfl, h4⟩⟩⟩⟩⟩
theorem tCharge_sz {a0 : Int} {a1 : Int} {x2 : List Int} {x3 : List Int} {x4 : List Int} : tCharge.sz (a0, a1, x2, x3, x4) = zL tInt x2 + zL tInt x3 + zL tInt x4 := by
  simp only [tCharge, tPair_sz, tPair_nd, tPair_nv, tInt_sz, tInt_nd, tInt_nv, tSl_sz, tSl_nd, tSl_nv]
  try omega
end Go.Proofs.YtjeaimdnddelpaaDoor
namespace Go.Proofs.YtjeaimdnddelpaaDoor
open Go.RowKit
set_option linter.unusedVariables false
set_option linter.unusedSimpArgs false
end Go.Proofs.YtjeaimdnddelpaaDoor
namespace Go.Proofs.YtjeaimdnddelpaaDoor
open Go.RowKit
set_option linter.unusedVariables false
set_option linter.unusedSimpArgs false
end Go.Proofs.YtjeaimdnddelpaaDoor
namespace Go.Proofs.YtjeaimdnddelpaaDoor
open Go.RowKit
set_option linter.unusedVariables false
theorem info_T_int : ElemInfo tInt 3 (.int .i64 0) := elemInfo_of (by kernel_rfl)
end Go.Proofs.YtjeaimdnddelpaaDoor
namespace Go.Proofs.YtjeaimdnddelpaaDoor
open Go.RowKit
set_option linter.unusedVariables false
set_option linter.unusedSimpArgs false
/-- Cells as they are: n of them. -/
def tRaw (n : Nat) : Ty (List Value) := { n := n, d := [], R := fun _ cs x => cs = x ∧ cs.length = n ∧ ∀ u ∈ cs, u.oneCell' = true, O := fun _ _ cs x => cs = x ∧ cs.length = n ∧ ∀ u ∈ cs, u.oneCell' = true, sz := fun _ => 0, nd := fun _ => 0, nv := fun _ => 0, md := fun x _ => x, mv := fun x _ => x, ok := fun _ => True, s := 0 }
theorem tRaw_law {n : Nat} (h : 0 < n) : (tRaw n).Law := ⟨h, fun h => h.2.1, fun h _ => h, fun h => h, fun h _ _ => h, fun h _ => h, fun h => h, fun x => Nat.le_refl _, fun x => Nat.le_refl _⟩
theorem flat_raw (n : Nat) : Flat (tRaw n) := ⟨fun h => h, fun h => h.2.2⟩
/-- What the cells read as. -/
def Sh {α : Type} (T : Ty α) (w : World) (L : List (List Value)) (xs : List α) : Prop := L.length = xs.length ∧ ∀ j, j < xs.length → T.R w (L.getD j []) (xs.getD j T.d)
section
variable {α : Type} {T : Ty α}
theorem sh_nil (w : World) : Sh T w [] [] := ⟨rfl, fun j hj => by simp at hj⟩
theorem sh_app {w : World} {L M : List (List Value)} {xs ys : List α} (h : Sh T w L xs) (g : Sh T w M ys) : Sh T w (L ++ M) (xs ++ ys) := by
  refine ⟨by rw [List.length_append, List.length_append, h.1, g.1], fun j hj => ?_⟩
  rw [List.length_append] at hj
  by_cases hlt : j < xs.length
  · have e1 : (xs ++ ys).getD j T.d = xs.getD j T.d := by simp [List.getD, List.getElem?_append_left hlt]
    have e2 : (L ++ M).getD j [] = L.getD j [] := by simp only [List.getD]; rw [List.getElem?_append_left (by rw [h.1]; exact hlt)]
    rw [e1, e2]; exact h.2 j hlt
  · have e1 : (xs ++ ys).getD j T.d = ys.getD (j - xs.length) T.d := by simp [List.getD, List.getElem?_append_right (show xs.length ≤ j by omega)]
    have e2 : (L ++ M).getD j [] = M.getD (j - xs.length) [] := by simp only [List.getD]; rw [List.getElem?_append_right (by rw [h.1]; omega), h.1]
    rw [e1, e2]; exact g.2 _ (by omega)
theorem sh_one {w : World} {cs : List Value} {x : α} (h : T.R w cs x) : Sh T w [cs] [x] := ⟨rfl, fun j hj => by
  obtain rfl : j = 0 := by simpa using hj
  exact h⟩
theorem raw_slR {w : World} {v : Value} {L : List (List Value)} {xs : List α} (h : SlR (tRaw T.n) w v L) (g : Sh T w L xs) : SlR T w v xs := by
  rcases h with ⟨rfl, a, cap, rfl⟩ | ⟨b, off, cap, us, rfl, h2, h3, h4⟩
  · have : xs = [] := List.eq_nil_of_length_eq_zero (by rw [← g.1]; rfl)
    subst this
    exact Or.inl ⟨rfl, a, cap, rfl⟩
  · rw [g.1] at h2 h4
    refine Or.inr ⟨b, off, cap, us, by rw [g.1], h2, h3, fun j hj => ⟨(h4 j hj).1, ?_⟩⟩
    have e : us j = L.getD j [] := (h4 j hj).2.1
    rw [e]
    exact g.2 j hj
/-- What is owned raw and read as elements that were there, stays while the rest of the memory stays. -/
theorem raw_reads (hn : 0 < T.n) {e : TypeId} {w : World} {F : Nat → Prop} {v : Value} {L : List (List Value)} {xs : List α} (h : SlO e (tRaw T.n) w F v L) (g : Sh T w L xs) : SlR T w v xs := raw_slR (slO_reads (tRaw_law hn) h) g
end
end Go.Proofs.YtjeaimdnddelpaaDoor
namespace Go.Proofs.YtjeaimdnddelpaaDoor
open Go.RowKit
set_option linter.unusedVariables false
set_option linter.unusedSimpArgs false
theorem store_at {P : Program} {W : World} {b j : Nat} {c : Array Value} {t : TypeId} {v : Value} (h : W.heap[b]? = some (.cells c t (0, 0))) (hj : j < c.size) (h1 : v.oneCell' = true) : (store ⟨b, j, none⟩ v).run P W = .ok () (W.setRow b (c.setIfInBounds j v)) := by
  have hcell : W.cell? ⟨b, j, none⟩ = some c[j] := by simp [World.cell?, h, hj]
  have hfro : W.frozen? ⟨b, j, none⟩ = false := by simp [World.frozen?, h]
  rw [run_store P W _ v _ h1, hcell]
  simp [hfro, setCell_eq_setRow W b j c t (0, 0) v h]
theorem len5 {cs : List Value} (h : cs.length = 5) : ∃ y0 y1 y2 y3 y4 : Value, cs = [y0, y1, y2, y3, y4] := by
  match cs, h with
  | [y0, y1, y2, y3, y4], _ => exact ⟨y0, y1, y2, y3, y4, rfl⟩
theorem cell5 {w : World} {b : Nat} {t : TypeId} {f : Nat × Nat} {y0 y1 y2 y3 y4 : Value} (h : w.heap[b]? = some (.cells #[y0, y1, y2, y3, y4] t f)) : w.cell? ⟨b, 0, none⟩ = some y0 ∧ w.cell? ⟨b, 1, none⟩ = some y1 ∧ w.cell? ⟨b, 2, none⟩ = some y2 ∧ w.cell? ⟨b, 3, none⟩ = some y3 ∧ w.cell? ⟨b, 4, none⟩ = some y4 :=
  ⟨cell_of_row w b 0 _ _ _ h, cell_of_row w b 1 _ _ _ h, cell_of_row w b 2 _ _ _ h, cell_of_row w b 3 _ _ _ h, cell_of_row w b 4 _ _ _ h⟩
theorem froz5 {w : World} {b : Nat} {t : TypeId} {y0 y1 y2 y3 y4 : Value} (h : w.heap[b]? = some (.cells #[y0, y1, y2, y3, y4] t (0, 0))) : w.frozen? ⟨b, 0, none⟩ = false ∧ w.frozen? ⟨b, 1, none⟩ = false ∧ w.frozen? ⟨b, 2, none⟩ = false ∧ w.frozen? ⟨b, 3, none⟩ = false ∧ w.frozen? ⟨b, 4, none⟩ = false :=
  ⟨frozen_of_row w b 0 _ _ h, frozen_of_row w b 1 _ _ h, frozen_of_row w b 2 _ _ h, frozen_of_row w b 3 _ _ h, frozen_of_row w b 4 _ _ h⟩
theorem rst5 {P : Program} {w : World} {b : Nat} {t : TypeId} {z0 z1 z2 z3 z4 y0 y1 y2 y3 y4 : Value} (h : w.heap[b]? = some (.cells #[z0, z1, z2, z3, z4] t (0, 0))) (h1 : ∀ v ∈ [y0, y1, y2, y3, y4], v.oneCell' = true) : (store ⟨b, 0, none⟩ y0).run P w = .ok () (w.setRow b #[y0, z1, z2, z3, z4]) ∧ (store ⟨b, 1, none⟩ y1).run P (w.setRow b #[y0, z1, z2, z3, z4]) = .ok () (w.setRow b #[y0, y1, z2, z3, z4]) ∧ (store ⟨b, 2, none⟩ y2).run P (w.setRow b #[y0, y1, z2, z3, z4]) = .ok () (w.setRow b #[y0, y1, y2, z3, z4]) ∧ (store ⟨b, 3, none⟩ y3).run P (w.setRow b #[y0, y1, y2, z3, z4]) = .ok () (w.setRow b #[y0, y1, y2, y3, z4]) ∧ (store ⟨b, 4, none⟩ y4).run P (w.setRow b #[y0, y1, y2, y3, z4]) = .ok () (w.setRow b #[y0, y1, y2, y3, y4]) :=
  ⟨by have := store_at (P := P) (j := 0) h (by simp) (h1 y0 (by simp)); simpa using this,
   by have := store_at (P := P) (j := 1) (setRow_heap w b _ #[y0, z1, z2, z3, z4] t (0, 0) h) (by simp) (h1 y1 (by simp)); rw [setRow_setRow] at this; simpa using this,
   by have := store_at (P := P) (j := 2) (setRow_heap w b _ #[y0, y1, z2, z3, z4] t (0, 0) h) (by simp) (h1 y2 (by simp)); rw [setRow_setRow] at this; simpa using this,
   by have := store_at (P := P) (j := 3) (setRow_heap w b _ #[y0, y1, y2, z3, z4] t (0, 0) h) (by simp) (h1 y3 (by simp)); rw [setRow_setRow] at this; simpa using this,
   by have := store_at (P := P) (j := 4) (setRow_heap w b _ #[y0, y1, y2, y3, z4] t (0, 0) h) (by simp) (h1 y4 (by simp)); rw [setRow_setRow] at this; simpa using this⟩
end Go.Proofs.YtjeaimdnddelpaaDoor
namespace Go.Proofs.YtjeaimdnddelpaaDoor
open Go.RowKit
set_option linter.unusedVariables false
set_option linter.unusedSimpArgs false
section
variable {α : Type}
end
section
variable {w0 w : World} {l : List Item} {α β : Type} {A : Ty α} {B : Ty β} {LA : A.Law} {LB : B.Law}
end
theorem setCell_box {W : World} {b : Nat} {c : Array Value} {t : TypeId} (h : W.heap[b]? = some (.cells c t (0, 0))) (j : Nat) (v : Value) : W.setCell ⟨b, j, none⟩ v = W.setRow b (c.setIfInBounds j v) := setCell_eq_setRow W b j c t (0, 0) v h
end Go.Proofs.YtjeaimdnddelpaaDoor
namespace Go.Proofs.YtjeaimdnddelpaaDoor
open Go.RowKit
set_option linter.unusedVariables false
set_option linter.unusedSimpArgs false
theorem accN_add (f g : Nat → Int) : ∀ n, accN (fun i => f i + g i) n = accN f n + accN g n
  | 0 => rfl
  | n + 1 => by rw [accN_succ, accN_succ, accN_succ, accN_add f g n]; omega
theorem accN_le {f g : Nat → Int} : ∀ {n : Nat}, (∀ i, i < n → f i ≤ g i) → accN f n ≤ accN g n
  | 0, _ => Int.le_refl _
  | n + 1, h => by
    rw [accN_succ, accN_succ]
    have := accN_le (n := n) (fun i hi => h i (by omega))
    have := h n (by omega)
    omega
theorem accN_zeros {f : Nat → Int} : ∀ {n : Nat}, (∀ i, i < n → f i = 0) → accN f n = 0
  | 0, _ => rfl
  | n + 1, h => by rw [accN_succ, accN_zeros (n := n) (fun i hi => h i (by omega)), h n (by omega)]; rfl
theorem accN_if (c : Bool) (f : Nat → Int) (n : Nat) : accN (fun i => if c then f i else 0) n = if c then accN f n else 0 := by
  cases c
  · exact accN_zeros (fun i _ => rfl)
  · rfl
theorem accN_q (q r : Int) (h0 : 0 ≤ r) : ∀ n : Nat, accN (fun i : Nat => if (i : Int) < r then q + 1 else q) n = (n : Int) * q + (if (n : Int) ≤ r then (n : Int) else r)
  | 0 => by simp [accN, h0]
  | n + 1 => by
    rw [accN_succ, accN_q q r h0 n]
    have e : ((n + 1 : Nat) : Int) * q = (n : Int) * q + q := by rw [Int.natCast_add, Int.add_mul]; simp
    rw [e]
    generalize (n : Int) * q = z
    by_cases h : (n : Int) < r
    · rw [if_pos h, if_pos (by omega), if_pos (by omega)]; omega
    · rw [if_neg h]
      by_cases g : (n : Int) ≤ r
      · rw [if_pos g, if_neg (by omega)]; omega
      · rw [if_neg g, if_neg (by omega)]; omega
/-- The share of the base that the i-th pays. -/
def bshI (x : ChargeD) (i : Nat) : Int := shB (x.2.1 / (x.2.2.1.length : Int)) (x.2.1 % (x.2.2.1.length : Int)) i
theorem share_split {x : ChargeD} (h : chargeB x = true) {i : Nat} (hi : i < x.2.2.1.length) : (sharesX x).getD i 0 = rowI x i + bshI x i := by
  rw [shares_getD h hi, shareI_eq]; rfl
theorem div_facts (b : Int) (n : Nat) (h1 : 1 ≤ n) (h2 : n ≤ 8) (h3 : 0 ≤ b) (h4 : b ≤ 4) : (n : Int) * (b / (n : Int)) + b % (n : Int) = b ∧ 0 ≤ b % (n : Int) ∧ b % (n : Int) < (n : Int) ∧ b / (n : Int) ≤ (b + (n : Int) - 1) / (n : Int) ∧ (0 < b % (n : Int) → b / (n : Int) + 1 ≤ (b + (n : Int) - 1) / (n : Int)) := by
  have : n = 1 ∨ n = 2 ∨ n = 3 ∨ n = 4 ∨ n = 5 ∨ n = 6 ∨ n = 7 ∨ n = 8 := by omega
  rcases this with rfl | rfl | rfl | rfl | rfl | rfl | rfl | rfl
  all_goals omega
theorem bsh_sum {x : ChargeD} (h : chargeB x = true) : accN (bshI x) x.2.2.1.length = x.2.1 := by
  obtain ⟨_, ⟨⟨h1, h2⟩, _, _, h5, h6⟩, _, _⟩ := charge_iff h
  obtain ⟨d1, d2, d3, _, _⟩ := div_facts x.2.1 x.2.2.1.length h1 h2 h5 h6
  show accN (fun i : Nat => if (i : Int) < x.2.1 % (x.2.2.1.length : Int) then x.2.1 / (x.2.2.1.length : Int) + 1 else x.2.1 / (x.2.2.1.length : Int)) x.2.2.1.length = x.2.1
  rw [accN_q _ _ d2, if_neg (by omega)]
  exact d1
theorem bsh_bd {x : ChargeD} (h : chargeB x = true) (i : Nat) : x.2.1 / (x.2.2.1.length : Int) ≤ bshI x i ∧ bshI x i ≤ (x.2.1 + (x.2.2.1.length : Int) - 1) / (x.2.2.1.length : Int) ∧ 0 ≤ bshI x i := by
  obtain ⟨_, ⟨⟨h1, h2⟩, _, _, h5, h6⟩, _, _⟩ := charge_iff h
  obtain ⟨d1, d2, d3, d4, d5⟩ := div_facts x.2.1 x.2.2.1.length h1 h2 h5 h6
  have d6 := (base_div h).1
  unfold bshI shB
  split
  · exact ⟨by omega, d5 (by omega), by omega⟩
  · exact ⟨by omega, d4, d6⟩
theorem shares_n {x : ChargeD} (h : chargeB x = true) : (sharesX x).length = x.2.2.1.length := by rw [sharesX_yes h, sharesTo_len]
def getI (l : List Int) (i : Nat) : Int := l.getD i 0
theorem shares_sum (x : ChargeD) : accN (getI (sharesX x)) (sharesX x).length = workX x := by
  rcases Bool.eq_false_or_eq_true (chargeB x) with h | h
  · rw [shares_n h, workX_yes h, accN_ext (f := getI (sharesX x)) (fun i hi => share_split h hi), accN_add, bsh_sum h]
    have e : x.2.2.2.2.length = x.2.2.1.length := (charge_iff h).2.1.2.1.2
    rw [e]; omega
  · rw [sharesX_no h, workX_no h]; rfl
theorem shares_bd2 (x : ChargeD) (k : Nat) : 0 ≤ accN (getI (sharesX x)) k ∧ accN (getI (sharesX x)) k ≤ 9 * k := accN_bd (fun i => shares_bd i) k
/- What a group pays. -/
def grpI (m : Int → Bool) (x : ChargeD) (k : Nat) : Int := if m (k : Int) then tenX (k : Int) x else 0
def grpX (m : Int → Bool) (x : ChargeD) : Int := accN (grpI m x) 4
def oneI (m : Int → Bool) (x : ChargeD) (i : Nat) : Int := if m (x.2.2.2.1.getD i 0) then (sharesX x).getD i 0 else 0
theorem grp_one {m : Int → Bool} {x : ChargeD} (h : chargeB x = true) : grpX m x = accN (oneI m x) x.2.2.1.length := by
  have T : ∀ t : Int, (if m t then tenX t x else 0) = accN (fun i => if m t then tenI x.2.2.2.1 (sharesX x) t i else 0) x.2.2.1.length := fun t => by
    rw [accN_if]; unfold tenX; rw [shares_n h]
  have e : grpX m x = (if m 0 then tenX 0 x else 0) + (if m 1 then tenX 1 x else 0) + (if m 2 then tenX 2 x else 0) + (if m 3 then tenX 3 x else 0) := by
    show 0 + _ + _ + _ + _ = _
    rw [Int.zero_add]; rfl
  rw [e, T 0, T 1, T 2, T 3, ← accN_add, ← accN_add, ← accN_add]
  refine accN_ext (fun i hi => ?_)
  have ht := chg_ten h (i := i) (by rw [(charge_iff h).2.1.2.1.1]; exact hi)
  unfold oneI tenI
  generalize x.2.2.2.1.getD i 0 = y at *
  have : y = 0 ∨ y = 1 ∨ y = 2 ∨ y = 3 := by omega
  rcases this with rfl | rfl | rfl | rfl <;> simp
theorem any_at {m : Int → Bool} {ts : List Int} : ∀ {k : Nat}, anyTo m ts k = false → ∀ i, i < k → m (ts.getD i 0) = false
  | k + 1, h, i, hi => by
    have h' : (anyTo m ts k || m (ts.getD k 0)) = false := h
    rw [Bool.or_eq_false_iff] at h'
    by_cases e : i = k
    · rw [e]; exact h'.2
    · exact any_at h'.1 i (by omega)
theorem grp_le (m : Int → Bool) (x : ChargeD) : grpX m x ≤ coX m x := by
  rcases Bool.eq_false_or_eq_true (chargeB x) with h | h
  · rw [grp_one h]
    rcases Bool.eq_false_or_eq_true (anyTo m x.2.2.2.1 x.2.2.1.length) with g | g
    · rw [coX_yes h g, ← bsh_sum h]
      unfold coRows
      rw [← accN_add]
      refine accN_le (fun i hi => ?_)
      unfold oneI coI
      have b := (bsh_bd h i).2.2
      rw [share_split h hi]
      show (if m (x.2.2.2.1.getD i 0) then rowI x i + bshI x i else 0) ≤ (if m (x.2.2.2.1.getD i 0) then rowI x i else 0) + bshI x i
      cases m (x.2.2.2.1.getD i 0)
      · simpa using b
      · simp
    · rw [coX_no2 g, accN_zeros (fun i hi => by unfold oneI; rw [any_at g i hi]; rfl)]; exact Int.le_refl _
  · rw [coX_no1 h]
    have : grpX m x = 0 := accN_zeros (fun i _ => by unfold grpI tenX; rw [sharesX_no h]; simp [accN])
    omega
theorem coX_le (m : Int → Bool) (x : ChargeD) : coX m x ≤ workX x := by
  rcases Bool.eq_false_or_eq_true (chargeB x) with h | h
  · rw [workX_yes h]
    obtain ⟨_, ⟨_, ⟨_, h4⟩, _, h5, _⟩, _, _⟩ := charge_iff h
    have r := (rows_sum h (Nat.le_refl _)).1
    rcases Bool.eq_false_or_eq_true (anyTo m x.2.2.2.1 x.2.2.1.length) with g | g
    · rw [coX_yes h g, h4]
      have : coRows m x x.2.2.1.length ≤ accN (rowI x) x.2.2.1.length := accN_le (fun i hi => by
        have := chg_row h (i := i) (by omega)
        unfold coI rowI
        split <;> omega)
      omega
    · rw [coX_no2 g]; omega
  · rw [coX_no1 h, workX_no h]; exact Int.le_refl _
/-- What the group named by ts pays, tenant by tenant. -/
def grpTo (ts : List Int) (l : List ChargeD) : Nat → Int
  | 0 => 0
  | k + 1 => if decide ((k : Int) ∈ ts) then grpTo ts l k + totalL (tenX (k : Int)) l else grpTo ts l k
theorem grpTo_yes {ts : List Int} {l : List ChargeD} {k : Nat} (h : (k : Int) ∈ ts) : grpTo ts l (k + 1) = grpTo ts l k + totalL (tenX (k : Int)) l := by show (if _ then _ else _) = _; rw [decide_eq_true h]; rfl
theorem grpTo_no {ts : List Int} {l : List ChargeD} {k : Nat} (h : ¬ (k : Int) ∈ ts) : grpTo ts l (k + 1) = grpTo ts l k := by show (if _ then _ else _) = _; rw [decide_eq_false h]; rfl
theorem tenL_bd (t : Int) (l : List ChargeD) : 0 ≤ totalL (tenX t) l ∧ totalL (tenX t) l ≤ 72 * l.length := totalTo_bd (tenX_bd t) l l.length
theorem grpTo_bd2 {ts : List Int} {l : List ChargeD} (h : l.length ≤ 100) : ∀ k : Nat, 0 ≤ grpTo ts l k ∧ grpTo ts l k ≤ 7200 * k
  | 0 => ⟨Int.le_refl _, by simp [grpTo]⟩
  | k + 1 => by
    have h1 := grpTo_bd2 (ts := ts) h k
    have g := tenL_bd (k : Int) l
    by_cases q : (k : Int) ∈ ts
    · rw [grpTo_yes q]; omega
    · rw [grpTo_no q]; omega
theorem grpTo_all (ts : List Int) (l : List ChargeD) : grpTo ts l 4 = totalL (grpX (memB ts)) l := by
  have S : ∀ (k : Nat), grpTo ts l (k + 1) = grpTo ts l k + totalL (fun x => grpI (memB ts) x k) l := fun k => by
    have e : totalL (fun x => grpI (memB ts) x k) l = if memB ts (k : Int) then totalL (tenX (k : Int)) l else 0 := accN_if _ _ _
    rw [e]
    by_cases q : (k : Int) ∈ ts
    · rw [grpTo_yes q, if_pos (show memB ts (k : Int) = true from decide_eq_true q)]
    · rw [grpTo_no q, if_neg (by show ¬ decide ((k : Int) ∈ ts) = true; rw [decide_eq_false q]; simp)]; omega
  have A : ∀ f g : ChargeD → Int, totalL f l + totalL g l = totalL (fun x => f x + g x) l := fun f g => (accN_add _ _ _).symm
  rw [S 3, S 2, S 1, S 0]
  show 0 + _ + _ + _ + _ = _
  rw [Int.zero_add, A, A, A]
  refine accN_ext (fun i _ => ?_)
  show _ = 0 + _ + _ + _ + _
  rw [Int.zero_add]
  rfl
theorem grp_cost (ts : List Int) (l : List ChargeD) : grpTo ts l 4 ≤ totalL (coX (memB ts)) l := by
  rw [grpTo_all]; exact accN_le (fun i _ => grp_le _ _)
theorem cost_work (m : Int → Bool) (l : List ChargeD) : totalL (coX m) l ≤ totalL workX l := accN_le (fun i _ => coX_le _ _)
end Go.Proofs.YtjeaimdnddelpaaDoor
namespace Go.Proofs.YtjeaimdnddelpaaDoor
open Go.RowKit
set_option linter.unusedVariables false
set_option linter.unusedSimpArgs false
end Go.Proofs.YtjeaimdnddelpaaDoor
namespace Go.Proofs.YtjeaimdnddelpaaDoor
open Go.RowKit
set_option linter.unusedVariables false
set_option linter.unusedSimpArgs false
end Go.Proofs.YtjeaimdnddelpaaDoor
namespace Go.Proofs.YtjeaimdnddelpaaDoor
open Go.RowKit
set_option linter.unusedVariables false
set_option linter.unusedSimpArgs false
end Go.Proofs.YtjeaimdnddelpaaDoor
namespace Go.Proofs.YtjeaimdnddelpaaDoor
open Go.RowKit
set_option linter.unusedVariables false
set_option linter.unusedSimpArgs false
end Go.Proofs.YtjeaimdnddelpaaDoor
namespace Go.Proofs.YtjeaimdnddelpaaDoor
open Go.RowKit
set_option linter.unusedVariables false
set_option linter.unusedSimpArgs false
end Go.Proofs.YtjeaimdnddelpaaDoor
namespace Go.Proofs.YtjeaimdnddelpaaDoor
open Go.RowKit
set_option linter.unusedVariables false
set_option linter.unusedSimpArgs false
end Go.Proofs.YtjeaimdnddelpaaDoor
namespace Go.Proofs.YtjeaimdnddelpaaDoor
open Go.RowKit
set_option linter.unusedVariables false
set_option linter.unusedSimpArgs false
end Go.Proofs.YtjeaimdnddelpaaDoor
namespace Go.Proofs.YtjeaimdnddelpaaDoor
open Go.RowKit
set_option linter.unusedVariables false
set_option linter.unusedSimpArgs false
end Go.Proofs.YtjeaimdnddelpaaDoor
namespace Go.Proofs.YtjeaimdnddelpaaDoor
open Go.RowKit
set_option linter.unusedVariables false
set_option linter.unusedSimpArgs false
end Go.Proofs.YtjeaimdnddelpaaDoor
namespace Go.Proofs.YtjeaimdnddelpaaDoor
open Go.RowKit
set_option linter.unusedVariables false
set_option linter.unusedSimpArgs false
end Go.Proofs.YtjeaimdnddelpaaDoor
namespace Go.Proofs.YtjeaimdnddelpaaDoor
open Go.RowKit
set_option linter.unusedVariables false
set_option linter.unusedSimpArgs false
end Go.Proofs.YtjeaimdnddelpaaDoor
namespace Go.Proofs.YtjeaimdnddelpaaDoor
open Go.RowKit
set_option linter.unusedVariables false
set_option linter.unusedSimpArgs false
end Go.Proofs.YtjeaimdnddelpaaDoor
namespace Go.Proofs.YtjeaimdnddelpaaDoor
open Go.RowKit
set_option linter.unusedVariables false
set_option linter.unusedSimpArgs false
end Go.Proofs.YtjeaimdnddelpaaDoor
namespace Go.Proofs.YtjeaimdnddelpaaDoor
open Go.RowKit
set_option linter.unusedVariables false
set_option linter.unusedSimpArgs false
end Go.Proofs.YtjeaimdnddelpaaDoor
namespace Go.Proofs.YtjeaimdnddelpaaDoor
open Go.RowKit
set_option linter.unusedVariables false
set_option linter.unusedSimpArgs false
theorem chg_at {w : World} {v : Value} {l : List ChargeD} (h : SlR tCharge w v l) {k : Nat} (hk : k < l.length) :
    ∃ (b off cap : Nat) (p2 : Option Addr) (c2 : Nat) (p3 : Option Addr) (c3 : Nat) (p4 : Option Addr) (c4 : Nat), v = .slice (some ⟨b, off, none⟩) l.length cap ∧ b < w.heap.size ∧ w.cell? ⟨b, off + k * 5, none⟩ = some (.int .i64 (l.getD k x0D).1) ∧ w.cell? ⟨b, off + k * 5 + 1, none⟩ = some (.int .i64 (l.getD k x0D).2.1) ∧ w.cell? ⟨b, off + k * 5 + 2, none⟩ = some (.slice p2 (l.getD k x0D).2.2.1.length c2) ∧ w.cell? ⟨b, off + k * 5 + 3, none⟩ = some (.slice p3 (l.getD k x0D).2.2.2.1.length c3) ∧ w.cell? ⟨b, off + k * 5 + 4, none⟩ = some (.slice p4 (l.getD k x0D).2.2.2.2.length c4) ∧ SlR tInt w (.slice p2 (l.getD k x0D).2.2.1.length c2) (l.getD k x0D).2.2.1 ∧ SlR tInt w (.slice p3 (l.getD k x0D).2.2.2.1.length c3) (l.getD k x0D).2.2.2.1 ∧ SlR tInt w (.slice p4 (l.getD k x0D).2.2.2.2.length c4) (l.getD k x0D).2.2.2.2 := by
  obtain ⟨b, off, cap, cs, hv, hb, hc, hR⟩ := slR_at h hk
  change tCharge.R w cs (l.getD k x0D) at hR
  generalize l.getD k x0D = r at *
  obtain ⟨a0, a1, x2, x3, x4⟩ := r
  obtain ⟨v2, v3, v4, rfl, h2, h3, h4⟩ := tCharge_R hR
  obtain ⟨p2, c2, rfl⟩ := slR_len h2
  obtain ⟨p3, c3, rfl⟩ := slR_len h3
  obtain ⟨p4, c4, rfl⟩ := slR_len h4
  exact ⟨b, off, cap, p2, c2, p3, c3, p4, c4, hv, hb, hc 0 (by decide), hc 1 (by decide), hc 2 (by decide), hc 3 (by decide), hc 4 (by decide), h2, h3, h4⟩
theorem ret_n {a b : Int} (h : a = b) : Ending.returned (.int .i64 a) = .returned (.int .i64 b) := by rw [h]
end Go.Proofs.YtjeaimdnddelpaaDoor
namespace Go.Proofs.YtjeaimdnddelpaaDoor
open Go.RowKit
set_option linter.unusedVariables false
set_option linter.unusedSimpArgs false
end Go.Proofs.YtjeaimdnddelpaaDoor
namespace Go.Proofs.YtjeaimdnddelpaaDoor
open Go.RowKit
set_option linter.unusedVariables false
set_option linter.unusedSimpArgs false
end Go.Proofs.YtjeaimdnddelpaaDoor
namespace Go.Proofs.YtjeaimdnddelpaaDoor
open Go.RowKit
set_option linter.unusedVariables false
set_option linter.unusedSimpArgs false
end Go.Proofs.YtjeaimdnddelpaaDoor
namespace Go.Proofs.YtjeaimdnddelpaaDoor
open Go.RowKit
set_option linter.unusedVariables false
set_option linter.unusedSimpArgs false
end Go.Proofs.YtjeaimdnddelpaaDoor
namespace Go.Proofs.YtjeaimdnddelpaaDoor
open Go.RowKit
set_option linter.unusedVariables false
set_option linter.unusedSimpArgs false
theorem in_any (a l h : Int) (w : World) : Calls Tryd.prog 34 #[.int .i64 a, .int .i64 l, .int .i64 h] w fun e w' => e = .returned (.bool (decide (l ≤ a ∧ a ≤ h))) ∧ w' = w := by
  by_cases g : l ≤ a ∧ a ≤ h
  · rw [decide_eq_true g]; exact in_yes a l h w g.1 g.2
  · rw [decide_eq_false g]; exact in_no a l h w g
set_option maxHeartbeats 8000000 in
set_option maxRecDepth 100000 in
theorem specIsCharge (sg ba : Int) (iv tv rv : Value) (is ts rs : List Int) (w : World) (h2 : SlR tInt w iv is) (h3 : SlR tInt w tv ts) (h4 : SlR tInt w rv rs) (n2 : is.length ≤ 1048576) (n3 : ts.length ≤ 1048576) (n4 : rs.length ≤ 1048576) :
    Calls Tryd.prog 10 #[.agg #[.int .i64 sg, .int .i64 ba, iv, tv, rv]] w (fun e w' => e = .returned (.bool (chargeB (sg, ba, is, ts, rs))) ∧ Below w.heap.size w w') := by
  obtain ⟨ia, ic, rfl⟩ := slR_len h2
  obtain ⟨ta, tc, rfl⟩ := slR_len h3
  obtain ⟨ra, rc, rfl⟩ := slR_len h4
  have H2 := Lib.hid h2; have H3 := Lib.hid h3; have H4 := Lib.hid h4
  clear h2 h3 h4
  have d := Lib.hid (show Below w.heap.size w (w.alloc (.cells #[.int .i64 sg, .int .i64 ba, .slice ia is.length ic, .slice ta ts.length tc, .slice ra rs.length rc] 26)) from ((Below.refl _ w).alloc (Nat.le_refl _) _))
  have B0 : Hid ((w.alloc (.cells #[.int .i64 sg, .int .i64 ba, .slice ia is.length ic, .slice ta ts.length tc, .slice ra rs.length rc] 26)).heap[w.heap.size]? = some (.cells #[.int .i64 sg, .int .i64 ba, .slice ia is.length ic, .slice ta ts.length tc, .slice ra rs.length rc] 26 (0, 0))) := Lib.hid (by
    exact heap_alloc_new w _)
  have YW : Hid (w.heap.size + 1 ≤ (w.alloc (.cells #[.int .i64 sg, .int .i64 ba, .slice ia is.length ic, .slice ta ts.length tc, .slice ra rs.length rc] 26)).heap.size) := Lib.hid (by simp [World.size_alloc])
  go_enter Tryd.func10, Tryd.ntmps10
  go_wp2_with fail
  generalize (w.alloc (.cells #[.int .i64 sg, .int .i64 ba, .slice ia is.length ic, .slice ta ts.length tc, .slice ra rs.length rc] 26)) = W at *
  refine (specIsSet (.slice ia is.length ic) is W (slR_ints (slR_below tInt_law H2.out d.out)) n2).mono ?_
  rintro e W1 ⟨rfl, c⟩
  replace B0 := Lib.hid ((c.block w.heap.size (Array.getElem?_eq_some_iff.1 B0.out).1).trans B0.out)
  replace d := Lib.hid (d.out.trans (c.mono d.out.size))
  have Z_W1 := Lib.hid (show W.heap.size ≤ W1.heap.size from c.size)
  clear c
  rcases Bool.eq_false_or_eq_true (setB is) with hset | hset
  rotate_left
  · rw [hset]
    have HF := Lib.hid (charge_no1 (x := (sg, ba, is, ts, rs)) hset)
    clear hset
    have p_B0_0 := (cell_of_row W1 _ 0 _ _ _ B0.out).trans (show _ = some (Value.int .i64 sg) from rfl)
    have p_B0_1 := (cell_of_row W1 _ 1 _ _ _ B0.out).trans (show _ = some (Value.int .i64 ba) from rfl)
    have p_B0_2 := (cell_of_row W1 _ 2 _ _ _ B0.out).trans (show _ = some (Value.slice ia is.length ic) from rfl)
    have p_B0_3 := (cell_of_row W1 _ 3 _ _ _ B0.out).trans (show _ = some (Value.slice ta ts.length tc) from rfl)
    have p_B0_4 := (cell_of_row W1 _ 4 _ _ _ B0.out).trans (show _ = some (Value.slice ra rs.length rc) from rfl)
    go_wp2
    clear p_B0_0 p_B0_1 p_B0_2 p_B0_3 p_B0_4
    go_ret
    exact ⟨ret_b HF.out.symm, d.out⟩
  rw [hset]
  have HSET := Lib.hid hset
  clear hset
  by_cases hp1 : is.length ≠ 0
  rotate_left
  · have HF := Lib.hid (charge_no2 (x := (sg, ba, is, ts, rs)) (fun g => by have := g.1.1; simp only at this; omega))
    have f1 : ((is.length : Int) == 0) = true := by simpa using hp1
    clear hp1
    have p_B0_0 := (cell_of_row W1 _ 0 _ _ _ B0.out).trans (show _ = some (Value.int .i64 sg) from rfl)
    have p_B0_1 := (cell_of_row W1 _ 1 _ _ _ B0.out).trans (show _ = some (Value.int .i64 ba) from rfl)
    have p_B0_2 := (cell_of_row W1 _ 2 _ _ _ B0.out).trans (show _ = some (Value.slice ia is.length ic) from rfl)
    have p_B0_3 := (cell_of_row W1 _ 3 _ _ _ B0.out).trans (show _ = some (Value.slice ta ts.length tc) from rfl)
    have p_B0_4 := (cell_of_row W1 _ 4 _ _ _ B0.out).trans (show _ = some (Value.slice ra rs.length rc) from rfl)
    go_wp2
    clear p_B0_0 p_B0_1 p_B0_2 p_B0_3 p_B0_4
    go_ret
    exact ⟨ret_b HF.out.symm, d.out⟩
  have f1 : ((is.length : Int) == 0) = false := by simpa using hp1
  have HP1 := Lib.hid hp1
  clear hp1
  by_cases hp2 : ¬ 8 < is.length
  rotate_left
  · have HF := Lib.hid (charge_no2 (x := (sg, ba, is, ts, rs)) (fun g => by have := g.1.2; simp only at this; omega))
    have f2 : decide ((8 : Int) < (is.length : Int)) = true := decide_eq_true (by omega)
    clear hp2
    have p_B0_0 := (cell_of_row W1 _ 0 _ _ _ B0.out).trans (show _ = some (Value.int .i64 sg) from rfl)
    have p_B0_1 := (cell_of_row W1 _ 1 _ _ _ B0.out).trans (show _ = some (Value.int .i64 ba) from rfl)
    have p_B0_2 := (cell_of_row W1 _ 2 _ _ _ B0.out).trans (show _ = some (Value.slice ia is.length ic) from rfl)
    have p_B0_3 := (cell_of_row W1 _ 3 _ _ _ B0.out).trans (show _ = some (Value.slice ta ts.length tc) from rfl)
    have p_B0_4 := (cell_of_row W1 _ 4 _ _ _ B0.out).trans (show _ = some (Value.slice ra rs.length rc) from rfl)
    go_wp2
    clear p_B0_0 p_B0_1 p_B0_2 p_B0_3 p_B0_4
    go_ret
    exact ⟨ret_b HF.out.symm, d.out⟩
  have f2 : decide ((8 : Int) < (is.length : Int)) = false := decide_eq_false (by omega)
  have HP2 := Lib.hid hp2
  clear hp2
  by_cases hp3 : ts.length = is.length
  rotate_left
  · have HF := Lib.hid (charge_no2 (x := (sg, ba, is, ts, rs)) (fun g => hp3 g.2.1.1))
    have f3 : ((ts.length : Int) != (is.length : Int)) = true := by rw [bne_iff_ne]; omega
    clear hp3
    have p_B0_0 := (cell_of_row W1 _ 0 _ _ _ B0.out).trans (show _ = some (Value.int .i64 sg) from rfl)
    have p_B0_1 := (cell_of_row W1 _ 1 _ _ _ B0.out).trans (show _ = some (Value.int .i64 ba) from rfl)
    have p_B0_2 := (cell_of_row W1 _ 2 _ _ _ B0.out).trans (show _ = some (Value.slice ia is.length ic) from rfl)
    have p_B0_3 := (cell_of_row W1 _ 3 _ _ _ B0.out).trans (show _ = some (Value.slice ta ts.length tc) from rfl)
    have p_B0_4 := (cell_of_row W1 _ 4 _ _ _ B0.out).trans (show _ = some (Value.slice ra rs.length rc) from rfl)
    go_wp2
    clear p_B0_0 p_B0_1 p_B0_2 p_B0_3 p_B0_4
    go_ret
    exact ⟨ret_b HF.out.symm, d.out⟩
  have f3 : ((ts.length : Int) != (is.length : Int)) = false := by rw [bne_eq_false_iff_eq]; omega
  have HP3 := Lib.hid hp3
  clear hp3
  by_cases hp4 : rs.length = is.length
  rotate_left
  · have HF := Lib.hid (charge_no2 (x := (sg, ba, is, ts, rs)) (fun g => hp4 g.2.1.2))
    have f4 : ((rs.length : Int) != (is.length : Int)) = true := by rw [bne_iff_ne]; omega
    clear hp4
    have p_B0_0 := (cell_of_row W1 _ 0 _ _ _ B0.out).trans (show _ = some (Value.int .i64 sg) from rfl)
    have p_B0_1 := (cell_of_row W1 _ 1 _ _ _ B0.out).trans (show _ = some (Value.int .i64 ba) from rfl)
    have p_B0_2 := (cell_of_row W1 _ 2 _ _ _ B0.out).trans (show _ = some (Value.slice ia is.length ic) from rfl)
    have p_B0_3 := (cell_of_row W1 _ 3 _ _ _ B0.out).trans (show _ = some (Value.slice ta ts.length tc) from rfl)
    have p_B0_4 := (cell_of_row W1 _ 4 _ _ _ B0.out).trans (show _ = some (Value.slice ra rs.length rc) from rfl)
    go_wp2
    clear p_B0_0 p_B0_1 p_B0_2 p_B0_3 p_B0_4
    go_ret
    exact ⟨ret_b HF.out.symm, d.out⟩
  have f4 : ((rs.length : Int) != (is.length : Int)) = false := by rw [bne_eq_false_iff_eq]; omega
  have HP4 := Lib.hid hp4
  clear hp4
  have p_B0_0 := (cell_of_row W1 _ 0 _ _ _ B0.out).trans (show _ = some (Value.int .i64 sg) from rfl)
  have p_B0_1 := (cell_of_row W1 _ 1 _ _ _ B0.out).trans (show _ = some (Value.int .i64 ba) from rfl)
  have p_B0_2 := (cell_of_row W1 _ 2 _ _ _ B0.out).trans (show _ = some (Value.slice ia is.length ic) from rfl)
  have p_B0_3 := (cell_of_row W1 _ 3 _ _ _ B0.out).trans (show _ = some (Value.slice ta ts.length tc) from rfl)
  have p_B0_4 := (cell_of_row W1 _ 4 _ _ _ B0.out).trans (show _ = some (Value.slice ra rs.length rc) from rfl)
  go_wp2_with fail
  clear p_B0_0 p_B0_1 p_B0_2 p_B0_3 p_B0_4 f1 f2 f3 f4
  refine (in_any sg 0 7 _).mono ?_
  rintro e wx ⟨rfl, hwx⟩
  obtain rfl := hwx.symm
  rcases Bool.eq_false_or_eq_true (decide (0 ≤ sg ∧ sg ≤ 7)) with hp5 | hp5
  rotate_left
  · rw [hp5]
    have HF := Lib.hid (charge_no2 (x := (sg, ba, is, ts, rs)) (fun g => of_decide_eq_false hp5 g.2.2.1))
    clear hp5
    have p_B0_0 := (cell_of_row W1 _ 0 _ _ _ B0.out).trans (show _ = some (Value.int .i64 sg) from rfl)
    have p_B0_1 := (cell_of_row W1 _ 1 _ _ _ B0.out).trans (show _ = some (Value.int .i64 ba) from rfl)
    have p_B0_2 := (cell_of_row W1 _ 2 _ _ _ B0.out).trans (show _ = some (Value.slice ia is.length ic) from rfl)
    have p_B0_3 := (cell_of_row W1 _ 3 _ _ _ B0.out).trans (show _ = some (Value.slice ta ts.length tc) from rfl)
    have p_B0_4 := (cell_of_row W1 _ 4 _ _ _ B0.out).trans (show _ = some (Value.slice ra rs.length rc) from rfl)
    go_wp2
    clear p_B0_0 p_B0_1 p_B0_2 p_B0_3 p_B0_4
    go_ret
    exact ⟨ret_b HF.out.symm, d.out⟩
  rw [hp5]
  have HP5 := Lib.hid hp5
  clear hp5
  have p_B0_0 := (cell_of_row W1 _ 0 _ _ _ B0.out).trans (show _ = some (Value.int .i64 sg) from rfl)
  have p_B0_1 := (cell_of_row W1 _ 1 _ _ _ B0.out).trans (show _ = some (Value.int .i64 ba) from rfl)
  have p_B0_2 := (cell_of_row W1 _ 2 _ _ _ B0.out).trans (show _ = some (Value.slice ia is.length ic) from rfl)
  have p_B0_3 := (cell_of_row W1 _ 3 _ _ _ B0.out).trans (show _ = some (Value.slice ta ts.length tc) from rfl)
  have p_B0_4 := (cell_of_row W1 _ 4 _ _ _ B0.out).trans (show _ = some (Value.slice ra rs.length rc) from rfl)
  go_wp2_with fail
  clear p_B0_0 p_B0_1 p_B0_2 p_B0_3 p_B0_4
  refine (in_any ba 0 4 _).mono ?_
  rintro e wx ⟨rfl, hwx⟩
  obtain rfl := hwx.symm
  rcases Bool.eq_false_or_eq_true (decide (0 ≤ ba ∧ ba ≤ 4)) with hp6 | hp6
  rotate_left
  · rw [hp6]
    have HF := Lib.hid (charge_no2 (x := (sg, ba, is, ts, rs)) (fun g => of_decide_eq_false hp6 g.2.2.2))
    clear hp6
    have p_B0_0 := (cell_of_row W1 _ 0 _ _ _ B0.out).trans (show _ = some (Value.int .i64 sg) from rfl)
    have p_B0_1 := (cell_of_row W1 _ 1 _ _ _ B0.out).trans (show _ = some (Value.int .i64 ba) from rfl)
    have p_B0_2 := (cell_of_row W1 _ 2 _ _ _ B0.out).trans (show _ = some (Value.slice ia is.length ic) from rfl)
    have p_B0_3 := (cell_of_row W1 _ 3 _ _ _ B0.out).trans (show _ = some (Value.slice ta ts.length tc) from rfl)
    have p_B0_4 := (cell_of_row W1 _ 4 _ _ _ B0.out).trans (show _ = some (Value.slice ra rs.length rc) from rfl)
    go_wp2
    clear p_B0_0 p_B0_1 p_B0_2 p_B0_3 p_B0_4
    go_ret
    exact ⟨ret_b HF.out.symm, d.out⟩
  rw [hp6]
  have HP6 := Lib.hid hp6
  clear hp6
  have HH : Hid (chargeHP (sg, ba, is, ts, rs)) := Lib.hid ⟨⟨by have := HP1.out; show 1 ≤ is.length; omega, by have := HP2.out; show is.length ≤ 8; omega⟩, ⟨HP3.out, HP4.out⟩, of_decide_eq_true HP5.out, of_decide_eq_true HP6.out⟩
  have p_B0_0 := (cell_of_row W1 _ 0 _ _ _ B0.out).trans (show _ = some (Value.int .i64 sg) from rfl)
  have p_B0_1 := (cell_of_row W1 _ 1 _ _ _ B0.out).trans (show _ = some (Value.int .i64 ba) from rfl)
  have p_B0_2 := (cell_of_row W1 _ 2 _ _ _ B0.out).trans (show _ = some (Value.slice ia is.length ic) from rfl)
  have p_B0_3 := (cell_of_row W1 _ 3 _ _ _ B0.out).trans (show _ = some (Value.slice ta ts.length tc) from rfl)
  have p_B0_4 := (cell_of_row W1 _ 4 _ _ _ B0.out).trans (show _ = some (Value.slice ra rs.length rc) from rfl)
  go_wp2
  clear p_B0_0 p_B0_1 p_B0_2 p_B0_3 p_B0_4
  go_loopw [4] (fun i wr => ∃ k : Nat, k ≤ is.length ∧ i = .int .i64 k ∧ Hid (AllTo tenB 0 ts k ∧ AllTo (getB ba) 0 rs k) ∧ Below W1.heap.size W1 wr) (fun i _ => is.length - (intOf i).toNat)
  case atStart => exact ⟨0, Nat.zero_le _, rfl, Lib.hid (⟨allTo_zero _ _ _, allTo_zero _ _ _⟩), Below.refl _ _⟩
  case round =>
    obtain ⟨k, hk, rfl, hno, c⟩ := hrel
    have cw := Lib.hid c
    replace B0 := Lib.hid ((c.block w.heap.size (Array.getElem?_eq_some_iff.1 B0.out).1).trans B0.out)
    replace d := Lib.hid (d.out.trans (c.mono d.out.size))
    clear c
    by_cases hlt : k < is.length
    · have i1 : (0 : Int) ≤ (k : Int) := by omega
      have i2 : (k : Int) < (is.length : Int) := by omega
      have hlt3 : k < ts.length := by have := HP3.out; omega
      have hlt4 : k < rs.length := by have := HP4.out; omega
      have i3 : (k : Int) < (ts.length : Int) := by omega
      have i4 : (k : Int) < (rs.length : Int) := by omega
      obtain ⟨b, off, cap', hv, hbl, hc⟩ := ints_cell (slR_ints H3.out) (by omega)
      simp only [Value.slice.injEq] at hv
      obtain ⟨rfl, _, rfl⟩ := hv
      have hcell := hc k hlt3
      obtain ⟨b2, off2, cap2, hv, hbl2, hc2⟩ := ints_cell (slR_ints H4.out) (by omega)
      simp only [Value.slice.injEq] at hv
      obtain ⟨rfl, _, rfl⟩ := hv
      have hcell2 := hc2 k hlt4
      have N3 : Hid (tenB (ts.getD k 0) = false → chargeB (sg, ba, is, ts, rs) = false) := Lib.hid (fun g => charge_no3 (x := (sg, ba, is, ts, rs)) (allB_no 0 hlt3 g))
      have N4 : Hid (getB ba (rs.getD k 0) = false → chargeB (sg, ba, is, ts, rs) = false) := Lib.hid (fun g => charge_no4 (x := (sg, ba, is, ts, rs)) (allB_no 0 hlt4 g))
      have Y3 : Hid (tenB (ts.getD k 0) = true → AllTo tenB 0 ts (k + 1)) := Lib.hid (fun g => allTo_step hno.out.1 g)
      have Y4 : Hid (getB ba (rs.getD k 0) = true → AllTo (getB ba) 0 rs (k + 1)) := Lib.hid (fun g => allTo_step hno.out.2 g)
      have BL := Lib.hid hbl; have BL2 := Lib.hid hbl2
      clear hc hc2 hno hbl hbl2 hlt3 hlt4
      generalize ts.getD k 0 = y at *
      generalize rs.getD k 0 = z at *
      have T0 := Lib.hid hcell; have R0 := Lib.hid hcell2
      clear hcell hcell2
      by_cases ht : 0 ≤ y ∧ y ≤ 3
      · have HI := Lib.hid (fun W => in_yes y 0 3 W ht.1 ht.2)
        have HY3 := Lib.hid (Y3.out (decide_eq_true ht))
        clear ht
        by_cases hz : 0 ≤ z ∧ z ≤ ba
        · have HI2 := Lib.hid (fun W => in_yes z 0 ba W hz.1 hz.2)
          have HY4 := Lib.hid (Y4.out (decide_eq_true hz))
          clear hz N3 N4 Y3 Y4
          go_wp2
          have p_B0_0 := (cell_of_row wr _ 0 _ _ _ B0.out).trans (show _ = some (Value.int .i64 sg) from rfl)
          have p_B0_1 := (cell_of_row wr _ 1 _ _ _ B0.out).trans (show _ = some (Value.int .i64 ba) from rfl)
          have p_B0_2 := (cell_of_row wr _ 2 _ _ _ B0.out).trans (show _ = some (Value.slice ia is.length ic) from rfl)
          have p_B0_3 := (cell_of_row wr _ 3 _ _ _ B0.out).trans (show _ = some (Value.slice (some ⟨b, off, none⟩) ts.length tc) from rfl)
          have p_B0_4 := (cell_of_row wr _ 4 _ _ _ B0.out).trans (show _ = some (Value.slice (some ⟨b2, off2, none⟩) rs.length rc) from rfl)
          have p_T0 := (d.out.cell (p := ⟨b, off + k, none⟩) BL.out).trans T0.out
          have p_R0 := (d.out.cell (p := ⟨b2, off2 + k, none⟩) BL2.out).trans R0.out
          refine wp_region_held_drew (S := fun w' => w'.cell? ⟨w.heap.size, 0, none⟩ = some (Value.int .i64 sg) ∧ w'.cell? ⟨w.heap.size, 1, none⟩ = some (Value.int .i64 ba) ∧ w'.cell? ⟨w.heap.size, 2, none⟩ = some (Value.slice ia is.length ic) ∧ w'.cell? ⟨w.heap.size, 3, none⟩ = some (Value.slice (some ⟨b, off, none⟩) ts.length tc) ∧ w'.cell? ⟨w.heap.size, 4, none⟩ = some (Value.slice (some ⟨b2, off2, none⟩) rs.length rc) ∧ w'.cell? ⟨b, off + k, none⟩ = some (Value.int .i64 y) ∧ w'.cell? ⟨b2, off2 + k, none⟩ = some (Value.int .i64 z)) (by kernel_rfl) ⟨p_B0_0, p_B0_1, p_B0_2, p_B0_3, p_B0_4, p_T0, p_R0⟩ (fun hHeld => ?_)
          clear p_B0_0 p_B0_1 p_B0_2 p_B0_3 p_B0_4 p_T0 p_R0
          have cdr : Below wr.heap.size wr wr.drew := below_drew (Below.refl _ _)
          replace B0 := Lib.hid ((cdr.block w.heap.size (Array.getElem?_eq_some_iff.1 B0.out).1).trans B0.out)
          replace d := Lib.hid (d.out.trans (cdr.mono d.out.size))
          clear cdr
          refine take_runs (i := 0) (v := ?_) (by simp only [List.getElem?_toArray, List.getElem?_cons_succ, List.getElem?_cons_zero]; rfl) (by kernel_rfl) (by kernel_rfl) (by kernel_rfl) rfl (by exact fun _ _ _ h => h) (by rfl) ?_ (by assumption) ?_
          rotate_left
          · intro w hSw; (try dsimp only at hSw); go_simp; try (with_reducible rfl)
          try simp only [Act.put, List.setIfInBounds_toArray, List.set_cons_zero, List.set_cons_succ]
          refine take_runs (i := 1) (v := ?_) (by simp only [List.getElem?_toArray, List.getElem?_cons_succ, List.getElem?_cons_zero]; rfl) (by kernel_rfl) (by kernel_rfl) (by kernel_rfl) rfl (by exact fun _ _ _ h => h) (by rfl) ?_ (by assumption) ?_
          rotate_left
          · intro w hSw; (try dsimp only at hSw); go_simp; try (with_reducible rfl)
          try simp only [Act.put, List.setIfInBounds_toArray, List.set_cons_zero, List.set_cons_succ]
          refine take_runs (i := 2) (v := ?_) (by simp only [List.getElem?_toArray, List.getElem?_cons_succ, List.getElem?_cons_zero]; rfl) (by kernel_rfl) (by kernel_rfl) (by kernel_rfl) rfl (by exact fun _ _ _ h => h) (by rfl) ?_ (by assumption) ?_
          rotate_left
          · intro w hSw; (try dsimp only at hSw); go_simp; try (with_reducible rfl)
          try simp only [Act.put, List.setIfInBounds_toArray, List.set_cons_zero, List.set_cons_succ]
          refine take_runs (i := 3) (v := ?_) (by simp only [List.getElem?_toArray, List.getElem?_cons_succ, List.getElem?_cons_zero]; rfl) (by kernel_rfl) (by kernel_rfl) (by kernel_rfl) rfl (by exact fun _ _ _ h => h) (by rfl) ?_ (by assumption) ?_
          rotate_left
          · intro w hSw; (try dsimp only at hSw); go_simp; try (with_reducible rfl)
          try simp only [Act.put, List.setIfInBounds_toArray, List.set_cons_zero, List.set_cons_succ]
          refine take_runs (i := 4) (v := ?_) (by simp only [List.getElem?_toArray, List.getElem?_cons_succ, List.getElem?_cons_zero]; rfl) (by kernel_rfl) (by kernel_rfl) (by kernel_rfl) rfl (by exact fun _ _ _ h => h) (by rfl) ?_ (by assumption) ?_
          rotate_left
          · intro w hSw; (try dsimp only at hSw); go_simp; try (with_reducible rfl)
          try simp only [Act.put, List.setIfInBounds_toArray, List.set_cons_zero, List.set_cons_succ]
          refine wpAnyH_ready (rs := [5]) (by kernel_rfl) (by simp) ?_
          refine (AllReadyH.cons (o := _) (by simp only [List.getElem?_toArray, List.getElem?_cons_succ, List.getElem?_cons_zero]; rfl) (fun K hK => ?_) AllReadyH.nil)
          go_simp
          refine (HI.out _).mono ?_
          rintro e wx ⟨rfl, hwx⟩
          obtain rfl := hwx.symm
          have p_B0_0 := (cell_of_row (wr.drew) _ 0 _ _ _ B0.out).trans (show _ = some (Value.int .i64 sg) from rfl)
          have p_B0_1 := (cell_of_row (wr.drew) _ 1 _ _ _ B0.out).trans (show _ = some (Value.int .i64 ba) from rfl)
          have p_B0_2 := (cell_of_row (wr.drew) _ 2 _ _ _ B0.out).trans (show _ = some (Value.slice ia is.length ic) from rfl)
          have p_B0_3 := (cell_of_row (wr.drew) _ 3 _ _ _ B0.out).trans (show _ = some (Value.slice (some ⟨b, off, none⟩) ts.length tc) from rfl)
          have p_B0_4 := (cell_of_row (wr.drew) _ 4 _ _ _ B0.out).trans (show _ = some (Value.slice (some ⟨b2, off2, none⟩) rs.length rc) from rfl)
          have p_T0 := (d.out.cell (p := ⟨b, off + k, none⟩) BL.out).trans T0.out
          have p_R0 := (d.out.cell (p := ⟨b2, off2 + k, none⟩) BL2.out).trans R0.out
          refine hK.out _ _ ⟨p_B0_0, p_B0_1, p_B0_2, p_B0_3, p_B0_4, p_T0, p_R0⟩ (fun hHeld => ?_)
          clear p_B0_0 p_B0_1 p_B0_2 p_B0_3 p_B0_4 p_T0 p_R0
          clear hK K
          try simp only [Act.put, List.setIfInBounds_toArray, List.set_cons_zero, List.set_cons_succ]
          refine take_runs (i := 6) (v := ?_) (by simp only [List.getElem?_toArray, List.getElem?_cons_succ, List.getElem?_cons_zero]; rfl) (by kernel_rfl) (by kernel_rfl) (by kernel_rfl) rfl (by exact fun _ _ _ h => h) (by rfl) ?_ (by assumption) ?_
          rotate_left
          · intro w hSw; (try dsimp only at hSw); go_simp; try (with_reducible rfl)
          try simp only [Act.put, List.setIfInBounds_toArray, List.set_cons_zero, List.set_cons_succ]
          refine take_runs (i := 7) (v := ?_) (by simp only [List.getElem?_toArray, List.getElem?_cons_succ, List.getElem?_cons_zero]; rfl) (by kernel_rfl) (by kernel_rfl) (by kernel_rfl) rfl (by exact fun _ _ _ h => h) (by rfl) ?_ (by assumption) ?_
          rotate_left
          · intro w hSw; (try dsimp only at hSw); go_simp; try (with_reducible rfl)
          try simp only [Act.put, List.setIfInBounds_toArray, List.set_cons_zero, List.set_cons_succ]
          refine take_runs (i := 8) (v := ?_) (by simp only [List.getElem?_toArray, List.getElem?_cons_succ, List.getElem?_cons_zero]; rfl) (by kernel_rfl) (by kernel_rfl) (by kernel_rfl) rfl (by exact fun _ _ _ h => h) (by rfl) ?_ (by assumption) ?_
          rotate_left
          · intro w hSw; (try dsimp only at hSw); go_simp; try (with_reducible rfl)
          try simp only [Act.put, List.setIfInBounds_toArray, List.set_cons_zero, List.set_cons_succ]
          refine take_runs (i := 9) (v := ?_) (by simp only [List.getElem?_toArray, List.getElem?_cons_succ, List.getElem?_cons_zero]; rfl) (by kernel_rfl) (by kernel_rfl) (by kernel_rfl) rfl (by exact fun _ _ _ h => h) (by rfl) ?_ (by assumption) ?_
          rotate_left
          · intro w hSw; (try dsimp only at hSw); go_simp; try (with_reducible rfl)
          try simp only [Act.put, List.setIfInBounds_toArray, List.set_cons_zero, List.set_cons_succ]
          refine take_runs (i := 10) (v := ?_) (by simp only [List.getElem?_toArray, List.getElem?_cons_succ, List.getElem?_cons_zero]; rfl) (by kernel_rfl) (by kernel_rfl) (by kernel_rfl) rfl (by exact fun _ _ _ h => h) (by rfl) ?_ (by assumption) ?_
          rotate_left
          · intro w hSw; (try dsimp only at hSw); go_simp; try (with_reducible rfl)
          try simp only [Act.put, List.setIfInBounds_toArray, List.set_cons_zero, List.set_cons_succ]
          refine take_runs (i := 11) (v := ?_) (by simp only [List.getElem?_toArray, List.getElem?_cons_succ, List.getElem?_cons_zero]; rfl) (by kernel_rfl) (by kernel_rfl) (by kernel_rfl) rfl (by exact fun _ _ _ h => h) (by rfl) ?_ (by assumption) ?_
          rotate_left
          · intro w hSw; (try dsimp only at hSw); go_simp; try (with_reducible rfl)
          try simp only [Act.put, List.setIfInBounds_toArray, List.set_cons_zero, List.set_cons_succ]
          refine take_runs (i := 12) (v := ?_) (by simp only [List.getElem?_toArray, List.getElem?_cons_succ, List.getElem?_cons_zero]; rfl) (by kernel_rfl) (by kernel_rfl) (by kernel_rfl) rfl (by exact fun _ _ _ h => h) (by rfl) ?_ (by assumption) ?_
          rotate_left
          · intro w hSw; (try dsimp only at hSw); go_simp; try (with_reducible rfl)
          try simp only [Act.put, List.setIfInBounds_toArray, List.set_cons_zero, List.set_cons_succ]
          refine take_runs (i := 13) (v := ?_) (by simp only [List.getElem?_toArray, List.getElem?_cons_succ, List.getElem?_cons_zero]; rfl) (by kernel_rfl) (by kernel_rfl) (by kernel_rfl) rfl (by exact fun _ _ _ h => h) (by rfl) ?_ (by assumption) ?_
          rotate_left
          · intro w hSw; (try dsimp only at hSw); go_simp; try (with_reducible rfl)
          try simp only [Act.put, List.setIfInBounds_toArray, List.set_cons_zero, List.set_cons_succ]
          refine take_runs (i := 14) (v := ?_) (by simp only [List.getElem?_toArray, List.getElem?_cons_succ, List.getElem?_cons_zero]; rfl) (by kernel_rfl) (by kernel_rfl) (by kernel_rfl) rfl (by exact fun _ _ _ h => h) (by rfl) ?_ (by assumption) ?_
          rotate_left
          · intro w hSw; (try dsimp only at hSw); go_simp; try (with_reducible rfl)
          try simp only [Act.put, List.setIfInBounds_toArray, List.set_cons_zero, List.set_cons_succ]
          refine wpAnyH_ready (rs := [15]) (by kernel_rfl) (by simp) ?_
          refine (AllReadyH.cons (o := _) (by simp only [List.getElem?_toArray, List.getElem?_cons_succ, List.getElem?_cons_zero]; rfl) (fun K hK => ?_) AllReadyH.nil)
          go_simp
          refine (HI2.out _).mono ?_
          rintro e wx ⟨rfl, hwx⟩
          obtain rfl := hwx.symm
          have p_B0_0 := (cell_of_row (wr.drew) _ 0 _ _ _ B0.out).trans (show _ = some (Value.int .i64 sg) from rfl)
          have p_B0_1 := (cell_of_row (wr.drew) _ 1 _ _ _ B0.out).trans (show _ = some (Value.int .i64 ba) from rfl)
          have p_B0_2 := (cell_of_row (wr.drew) _ 2 _ _ _ B0.out).trans (show _ = some (Value.slice ia is.length ic) from rfl)
          have p_B0_3 := (cell_of_row (wr.drew) _ 3 _ _ _ B0.out).trans (show _ = some (Value.slice (some ⟨b, off, none⟩) ts.length tc) from rfl)
          have p_B0_4 := (cell_of_row (wr.drew) _ 4 _ _ _ B0.out).trans (show _ = some (Value.slice (some ⟨b2, off2, none⟩) rs.length rc) from rfl)
          have p_T0 := (d.out.cell (p := ⟨b, off + k, none⟩) BL.out).trans T0.out
          have p_R0 := (d.out.cell (p := ⟨b2, off2 + k, none⟩) BL2.out).trans R0.out
          refine hK.out _ _ ⟨p_B0_0, p_B0_1, p_B0_2, p_B0_3, p_B0_4, p_T0, p_R0⟩ (fun hHeld => ?_)
          clear p_B0_0 p_B0_1 p_B0_2 p_B0_3 p_B0_4 p_T0 p_R0
          clear hK K
          try simp only [Act.put, List.setIfInBounds_toArray, List.set_cons_zero, List.set_cons_succ]
          refine take_runs (i := 16) (v := ?_) (by simp only [List.getElem?_toArray, List.getElem?_cons_succ, List.getElem?_cons_zero]; rfl) (by kernel_rfl) (by kernel_rfl) (by kernel_rfl) rfl (by exact fun _ _ _ h => h) (by rfl) ?_ (by assumption) ?_
          rotate_left
          · intro w hSw; (try dsimp only at hSw); go_simp; try (with_reducible rfl)
          try simp only [Act.put, List.setIfInBounds_toArray, List.set_cons_zero, List.set_cons_succ]
          refine take_runs (i := 17) (v := ?_) (by simp only [List.getElem?_toArray, List.getElem?_cons_succ, List.getElem?_cons_zero]; rfl) (by kernel_rfl) (by kernel_rfl) (by kernel_rfl) rfl (by exact fun _ _ _ h => h) (by rfl) ?_ (by assumption) ?_
          rotate_left
          · intro w hSw; (try dsimp only at hSw); go_simp; try (with_reducible rfl)
          try simp only [Act.put, List.setIfInBounds_toArray, List.set_cons_zero, List.set_cons_succ]
          refine wpAnyH_done (by kernel_rfl) ?_ _
          clear hHeld
          go_wp2
          go_roundw
          case rel => exact ⟨k + 1, by omega, by go_num, Lib.hid ⟨HY3.out, HY4.out⟩, below_same cw.out rfl rfl rfl rfl⟩
          case measure => simp [intOf]; omega
        · have HI2 := Lib.hid (fun W => in_no z 0 ba W hz)
          have HF := Lib.hid (N4.out (decide_eq_false hz))
          clear hz N3 N4 Y3 Y4
          go_wp2
          have p_B0_0 := (cell_of_row wr _ 0 _ _ _ B0.out).trans (show _ = some (Value.int .i64 sg) from rfl)
          have p_B0_1 := (cell_of_row wr _ 1 _ _ _ B0.out).trans (show _ = some (Value.int .i64 ba) from rfl)
          have p_B0_2 := (cell_of_row wr _ 2 _ _ _ B0.out).trans (show _ = some (Value.slice ia is.length ic) from rfl)
          have p_B0_3 := (cell_of_row wr _ 3 _ _ _ B0.out).trans (show _ = some (Value.slice (some ⟨b, off, none⟩) ts.length tc) from rfl)
          have p_B0_4 := (cell_of_row wr _ 4 _ _ _ B0.out).trans (show _ = some (Value.slice (some ⟨b2, off2, none⟩) rs.length rc) from rfl)
          have p_T0 := (d.out.cell (p := ⟨b, off + k, none⟩) BL.out).trans T0.out
          have p_R0 := (d.out.cell (p := ⟨b2, off2 + k, none⟩) BL2.out).trans R0.out
          refine wp_region_held_drew (S := fun w' => w'.cell? ⟨w.heap.size, 0, none⟩ = some (Value.int .i64 sg) ∧ w'.cell? ⟨w.heap.size, 1, none⟩ = some (Value.int .i64 ba) ∧ w'.cell? ⟨w.heap.size, 2, none⟩ = some (Value.slice ia is.length ic) ∧ w'.cell? ⟨w.heap.size, 3, none⟩ = some (Value.slice (some ⟨b, off, none⟩) ts.length tc) ∧ w'.cell? ⟨w.heap.size, 4, none⟩ = some (Value.slice (some ⟨b2, off2, none⟩) rs.length rc) ∧ w'.cell? ⟨b, off + k, none⟩ = some (Value.int .i64 y) ∧ w'.cell? ⟨b2, off2 + k, none⟩ = some (Value.int .i64 z)) (by kernel_rfl) ⟨p_B0_0, p_B0_1, p_B0_2, p_B0_3, p_B0_4, p_T0, p_R0⟩ (fun hHeld => ?_)
          clear p_B0_0 p_B0_1 p_B0_2 p_B0_3 p_B0_4 p_T0 p_R0
          have cdr : Below wr.heap.size wr wr.drew := below_drew (Below.refl _ _)
          replace B0 := Lib.hid ((cdr.block w.heap.size (Array.getElem?_eq_some_iff.1 B0.out).1).trans B0.out)
          replace d := Lib.hid (d.out.trans (cdr.mono d.out.size))
          clear cdr
          refine take_runs (i := 0) (v := ?_) (by simp only [List.getElem?_toArray, List.getElem?_cons_succ, List.getElem?_cons_zero]; rfl) (by kernel_rfl) (by kernel_rfl) (by kernel_rfl) rfl (by exact fun _ _ _ h => h) (by rfl) ?_ (by assumption) ?_
          rotate_left
          · intro w hSw; (try dsimp only at hSw); go_simp; try (with_reducible rfl)
          try simp only [Act.put, List.setIfInBounds_toArray, List.set_cons_zero, List.set_cons_succ]
          refine take_runs (i := 1) (v := ?_) (by simp only [List.getElem?_toArray, List.getElem?_cons_succ, List.getElem?_cons_zero]; rfl) (by kernel_rfl) (by kernel_rfl) (by kernel_rfl) rfl (by exact fun _ _ _ h => h) (by rfl) ?_ (by assumption) ?_
          rotate_left
          · intro w hSw; (try dsimp only at hSw); go_simp; try (with_reducible rfl)
          try simp only [Act.put, List.setIfInBounds_toArray, List.set_cons_zero, List.set_cons_succ]
          refine take_runs (i := 2) (v := ?_) (by simp only [List.getElem?_toArray, List.getElem?_cons_succ, List.getElem?_cons_zero]; rfl) (by kernel_rfl) (by kernel_rfl) (by kernel_rfl) rfl (by exact fun _ _ _ h => h) (by rfl) ?_ (by assumption) ?_
          rotate_left
          · intro w hSw; (try dsimp only at hSw); go_simp; try (with_reducible rfl)
          try simp only [Act.put, List.setIfInBounds_toArray, List.set_cons_zero, List.set_cons_succ]
          refine take_runs (i := 3) (v := ?_) (by simp only [List.getElem?_toArray, List.getElem?_cons_succ, List.getElem?_cons_zero]; rfl) (by kernel_rfl) (by kernel_rfl) (by kernel_rfl) rfl (by exact fun _ _ _ h => h) (by rfl) ?_ (by assumption) ?_
          rotate_left
          · intro w hSw; (try dsimp only at hSw); go_simp; try (with_reducible rfl)
          try simp only [Act.put, List.setIfInBounds_toArray, List.set_cons_zero, List.set_cons_succ]
          refine take_runs (i := 4) (v := ?_) (by simp only [List.getElem?_toArray, List.getElem?_cons_succ, List.getElem?_cons_zero]; rfl) (by kernel_rfl) (by kernel_rfl) (by kernel_rfl) rfl (by exact fun _ _ _ h => h) (by rfl) ?_ (by assumption) ?_
          rotate_left
          · intro w hSw; (try dsimp only at hSw); go_simp; try (with_reducible rfl)
          try simp only [Act.put, List.setIfInBounds_toArray, List.set_cons_zero, List.set_cons_succ]
          refine wpAnyH_ready (rs := [5]) (by kernel_rfl) (by simp) ?_
          refine (AllReadyH.cons (o := _) (by simp only [List.getElem?_toArray, List.getElem?_cons_succ, List.getElem?_cons_zero]; rfl) (fun K hK => ?_) AllReadyH.nil)
          go_simp
          refine (HI.out _).mono ?_
          rintro e wx ⟨rfl, hwx⟩
          obtain rfl := hwx.symm
          have p_B0_0 := (cell_of_row (wr.drew) _ 0 _ _ _ B0.out).trans (show _ = some (Value.int .i64 sg) from rfl)
          have p_B0_1 := (cell_of_row (wr.drew) _ 1 _ _ _ B0.out).trans (show _ = some (Value.int .i64 ba) from rfl)
          have p_B0_2 := (cell_of_row (wr.drew) _ 2 _ _ _ B0.out).trans (show _ = some (Value.slice ia is.length ic) from rfl)
          have p_B0_3 := (cell_of_row (wr.drew) _ 3 _ _ _ B0.out).trans (show _ = some (Value.slice (some ⟨b, off, none⟩) ts.length tc) from rfl)
          have p_B0_4 := (cell_of_row (wr.drew) _ 4 _ _ _ B0.out).trans (show _ = some (Value.slice (some ⟨b2, off2, none⟩) rs.length rc) from rfl)
          have p_T0 := (d.out.cell (p := ⟨b, off + k, none⟩) BL.out).trans T0.out
          have p_R0 := (d.out.cell (p := ⟨b2, off2 + k, none⟩) BL2.out).trans R0.out
          refine hK.out _ _ ⟨p_B0_0, p_B0_1, p_B0_2, p_B0_3, p_B0_4, p_T0, p_R0⟩ (fun hHeld => ?_)
          clear p_B0_0 p_B0_1 p_B0_2 p_B0_3 p_B0_4 p_T0 p_R0
          clear hK K
          try simp only [Act.put, List.setIfInBounds_toArray, List.set_cons_zero, List.set_cons_succ]
          refine take_runs (i := 6) (v := ?_) (by simp only [List.getElem?_toArray, List.getElem?_cons_succ, List.getElem?_cons_zero]; rfl) (by kernel_rfl) (by kernel_rfl) (by kernel_rfl) rfl (by exact fun _ _ _ h => h) (by rfl) ?_ (by assumption) ?_
          rotate_left
          · intro w hSw; (try dsimp only at hSw); go_simp; try (with_reducible rfl)
          try simp only [Act.put, List.setIfInBounds_toArray, List.set_cons_zero, List.set_cons_succ]
          refine take_runs (i := 7) (v := ?_) (by simp only [List.getElem?_toArray, List.getElem?_cons_succ, List.getElem?_cons_zero]; rfl) (by kernel_rfl) (by kernel_rfl) (by kernel_rfl) rfl (by exact fun _ _ _ h => h) (by rfl) ?_ (by assumption) ?_
          rotate_left
          · intro w hSw; (try dsimp only at hSw); go_simp; try (with_reducible rfl)
          try simp only [Act.put, List.setIfInBounds_toArray, List.set_cons_zero, List.set_cons_succ]
          refine take_runs (i := 8) (v := ?_) (by simp only [List.getElem?_toArray, List.getElem?_cons_succ, List.getElem?_cons_zero]; rfl) (by kernel_rfl) (by kernel_rfl) (by kernel_rfl) rfl (by exact fun _ _ _ h => h) (by rfl) ?_ (by assumption) ?_
          rotate_left
          · intro w hSw; (try dsimp only at hSw); go_simp; try (with_reducible rfl)
          try simp only [Act.put, List.setIfInBounds_toArray, List.set_cons_zero, List.set_cons_succ]
          refine take_runs (i := 9) (v := ?_) (by simp only [List.getElem?_toArray, List.getElem?_cons_succ, List.getElem?_cons_zero]; rfl) (by kernel_rfl) (by kernel_rfl) (by kernel_rfl) rfl (by exact fun _ _ _ h => h) (by rfl) ?_ (by assumption) ?_
          rotate_left
          · intro w hSw; (try dsimp only at hSw); go_simp; try (with_reducible rfl)
          try simp only [Act.put, List.setIfInBounds_toArray, List.set_cons_zero, List.set_cons_succ]
          refine take_runs (i := 10) (v := ?_) (by simp only [List.getElem?_toArray, List.getElem?_cons_succ, List.getElem?_cons_zero]; rfl) (by kernel_rfl) (by kernel_rfl) (by kernel_rfl) rfl (by exact fun _ _ _ h => h) (by rfl) ?_ (by assumption) ?_
          rotate_left
          · intro w hSw; (try dsimp only at hSw); go_simp; try (with_reducible rfl)
          try simp only [Act.put, List.setIfInBounds_toArray, List.set_cons_zero, List.set_cons_succ]
          refine take_runs (i := 11) (v := ?_) (by simp only [List.getElem?_toArray, List.getElem?_cons_succ, List.getElem?_cons_zero]; rfl) (by kernel_rfl) (by kernel_rfl) (by kernel_rfl) rfl (by exact fun _ _ _ h => h) (by rfl) ?_ (by assumption) ?_
          rotate_left
          · intro w hSw; (try dsimp only at hSw); go_simp; try (with_reducible rfl)
          try simp only [Act.put, List.setIfInBounds_toArray, List.set_cons_zero, List.set_cons_succ]
          refine take_runs (i := 12) (v := ?_) (by simp only [List.getElem?_toArray, List.getElem?_cons_succ, List.getElem?_cons_zero]; rfl) (by kernel_rfl) (by kernel_rfl) (by kernel_rfl) rfl (by exact fun _ _ _ h => h) (by rfl) ?_ (by assumption) ?_
          rotate_left
          · intro w hSw; (try dsimp only at hSw); go_simp; try (with_reducible rfl)
          try simp only [Act.put, List.setIfInBounds_toArray, List.set_cons_zero, List.set_cons_succ]
          refine take_runs (i := 13) (v := ?_) (by simp only [List.getElem?_toArray, List.getElem?_cons_succ, List.getElem?_cons_zero]; rfl) (by kernel_rfl) (by kernel_rfl) (by kernel_rfl) rfl (by exact fun _ _ _ h => h) (by rfl) ?_ (by assumption) ?_
          rotate_left
          · intro w hSw; (try dsimp only at hSw); go_simp; try (with_reducible rfl)
          try simp only [Act.put, List.setIfInBounds_toArray, List.set_cons_zero, List.set_cons_succ]
          refine take_runs (i := 14) (v := ?_) (by simp only [List.getElem?_toArray, List.getElem?_cons_succ, List.getElem?_cons_zero]; rfl) (by kernel_rfl) (by kernel_rfl) (by kernel_rfl) rfl (by exact fun _ _ _ h => h) (by rfl) ?_ (by assumption) ?_
          rotate_left
          · intro w hSw; (try dsimp only at hSw); go_simp; try (with_reducible rfl)
          try simp only [Act.put, List.setIfInBounds_toArray, List.set_cons_zero, List.set_cons_succ]
          refine wpAnyH_ready (rs := [15]) (by kernel_rfl) (by simp) ?_
          refine (AllReadyH.cons (o := _) (by simp only [List.getElem?_toArray, List.getElem?_cons_succ, List.getElem?_cons_zero]; rfl) (fun K hK => ?_) AllReadyH.nil)
          go_simp
          refine (HI2.out _).mono ?_
          rintro e wx ⟨rfl, hwx⟩
          obtain rfl := hwx.symm
          have p_B0_0 := (cell_of_row (wr.drew) _ 0 _ _ _ B0.out).trans (show _ = some (Value.int .i64 sg) from rfl)
          have p_B0_1 := (cell_of_row (wr.drew) _ 1 _ _ _ B0.out).trans (show _ = some (Value.int .i64 ba) from rfl)
          have p_B0_2 := (cell_of_row (wr.drew) _ 2 _ _ _ B0.out).trans (show _ = some (Value.slice ia is.length ic) from rfl)
          have p_B0_3 := (cell_of_row (wr.drew) _ 3 _ _ _ B0.out).trans (show _ = some (Value.slice (some ⟨b, off, none⟩) ts.length tc) from rfl)
          have p_B0_4 := (cell_of_row (wr.drew) _ 4 _ _ _ B0.out).trans (show _ = some (Value.slice (some ⟨b2, off2, none⟩) rs.length rc) from rfl)
          have p_T0 := (d.out.cell (p := ⟨b, off + k, none⟩) BL.out).trans T0.out
          have p_R0 := (d.out.cell (p := ⟨b2, off2 + k, none⟩) BL2.out).trans R0.out
          refine hK.out _ _ ⟨p_B0_0, p_B0_1, p_B0_2, p_B0_3, p_B0_4, p_T0, p_R0⟩ (fun hHeld => ?_)
          clear p_B0_0 p_B0_1 p_B0_2 p_B0_3 p_B0_4 p_T0 p_R0
          clear hK K
          try simp only [Act.put, List.setIfInBounds_toArray, List.set_cons_zero, List.set_cons_succ]
          refine take_runs (i := 16) (v := ?_) (by simp only [List.getElem?_toArray, List.getElem?_cons_succ, List.getElem?_cons_zero]; rfl) (by kernel_rfl) (by kernel_rfl) (by kernel_rfl) rfl (by exact fun _ _ _ h => h) (by rfl) ?_ (by assumption) ?_
          rotate_left
          · intro w hSw; (try dsimp only at hSw); go_simp; try (with_reducible rfl)
          try simp only [Act.put, List.setIfInBounds_toArray, List.set_cons_zero, List.set_cons_succ]
          refine take_runs (i := 17) (v := ?_) (by simp only [List.getElem?_toArray, List.getElem?_cons_succ, List.getElem?_cons_zero]; rfl) (by kernel_rfl) (by kernel_rfl) (by kernel_rfl) rfl (by exact fun _ _ _ h => h) (by rfl) ?_ (by assumption) ?_
          rotate_left
          · intro w hSw; (try dsimp only at hSw); go_simp; try (with_reducible rfl)
          try simp only [Act.put, List.setIfInBounds_toArray, List.set_cons_zero, List.set_cons_succ]
          refine wpAnyH_done (by kernel_rfl) ?_ _
          clear hHeld
          go_wp2
          go_ret
          exact ⟨ret_b HF.out.symm, d.out⟩
      · have HI := Lib.hid (fun W => in_no y 0 3 W ht)
        have HF := Lib.hid (N3.out (decide_eq_false ht))
        clear ht N3 N4 Y3 Y4
        go_wp2
        have p_B0_0 := (cell_of_row wr _ 0 _ _ _ B0.out).trans (show _ = some (Value.int .i64 sg) from rfl)
        have p_B0_1 := (cell_of_row wr _ 1 _ _ _ B0.out).trans (show _ = some (Value.int .i64 ba) from rfl)
        have p_B0_2 := (cell_of_row wr _ 2 _ _ _ B0.out).trans (show _ = some (Value.slice ia is.length ic) from rfl)
        have p_B0_3 := (cell_of_row wr _ 3 _ _ _ B0.out).trans (show _ = some (Value.slice (some ⟨b, off, none⟩) ts.length tc) from rfl)
        have p_B0_4 := (cell_of_row wr _ 4 _ _ _ B0.out).trans (show _ = some (Value.slice (some ⟨b2, off2, none⟩) rs.length rc) from rfl)
        have p_T0 := (d.out.cell (p := ⟨b, off + k, none⟩) BL.out).trans T0.out
        have p_R0 := (d.out.cell (p := ⟨b2, off2 + k, none⟩) BL2.out).trans R0.out
        refine wp_region_held_drew (S := fun w' => w'.cell? ⟨w.heap.size, 0, none⟩ = some (Value.int .i64 sg) ∧ w'.cell? ⟨w.heap.size, 1, none⟩ = some (Value.int .i64 ba) ∧ w'.cell? ⟨w.heap.size, 2, none⟩ = some (Value.slice ia is.length ic) ∧ w'.cell? ⟨w.heap.size, 3, none⟩ = some (Value.slice (some ⟨b, off, none⟩) ts.length tc) ∧ w'.cell? ⟨w.heap.size, 4, none⟩ = some (Value.slice (some ⟨b2, off2, none⟩) rs.length rc) ∧ w'.cell? ⟨b, off + k, none⟩ = some (Value.int .i64 y) ∧ w'.cell? ⟨b2, off2 + k, none⟩ = some (Value.int .i64 z)) (by kernel_rfl) ⟨p_B0_0, p_B0_1, p_B0_2, p_B0_3, p_B0_4, p_T0, p_R0⟩ (fun hHeld => ?_)
        clear p_B0_0 p_B0_1 p_B0_2 p_B0_3 p_B0_4 p_T0 p_R0
        have cdr : Below wr.heap.size wr wr.drew := below_drew (Below.refl _ _)
        replace B0 := Lib.hid ((cdr.block w.heap.size (Array.getElem?_eq_some_iff.1 B0.out).1).trans B0.out)
        replace d := Lib.hid (d.out.trans (cdr.mono d.out.size))
        clear cdr
        refine take_runs (i := 0) (v := ?_) (by simp only [List.getElem?_toArray, List.getElem?_cons_succ, List.getElem?_cons_zero]; rfl) (by kernel_rfl) (by kernel_rfl) (by kernel_rfl) rfl (by exact fun _ _ _ h => h) (by rfl) ?_ (by assumption) ?_
        rotate_left
        · intro w hSw; (try dsimp only at hSw); go_simp; try (with_reducible rfl)
        try simp only [Act.put, List.setIfInBounds_toArray, List.set_cons_zero, List.set_cons_succ]
        refine take_runs (i := 1) (v := ?_) (by simp only [List.getElem?_toArray, List.getElem?_cons_succ, List.getElem?_cons_zero]; rfl) (by kernel_rfl) (by kernel_rfl) (by kernel_rfl) rfl (by exact fun _ _ _ h => h) (by rfl) ?_ (by assumption) ?_
        rotate_left
        · intro w hSw; (try dsimp only at hSw); go_simp; try (with_reducible rfl)
        try simp only [Act.put, List.setIfInBounds_toArray, List.set_cons_zero, List.set_cons_succ]
        refine take_runs (i := 2) (v := ?_) (by simp only [List.getElem?_toArray, List.getElem?_cons_succ, List.getElem?_cons_zero]; rfl) (by kernel_rfl) (by kernel_rfl) (by kernel_rfl) rfl (by exact fun _ _ _ h => h) (by rfl) ?_ (by assumption) ?_
        rotate_left
        · intro w hSw; (try dsimp only at hSw); go_simp; try (with_reducible rfl)
        try simp only [Act.put, List.setIfInBounds_toArray, List.set_cons_zero, List.set_cons_succ]
        refine take_runs (i := 3) (v := ?_) (by simp only [List.getElem?_toArray, List.getElem?_cons_succ, List.getElem?_cons_zero]; rfl) (by kernel_rfl) (by kernel_rfl) (by kernel_rfl) rfl (by exact fun _ _ _ h => h) (by rfl) ?_ (by assumption) ?_
        rotate_left
        · intro w hSw; (try dsimp only at hSw); go_simp; try (with_reducible rfl)
        try simp only [Act.put, List.setIfInBounds_toArray, List.set_cons_zero, List.set_cons_succ]
        refine take_runs (i := 4) (v := ?_) (by simp only [List.getElem?_toArray, List.getElem?_cons_succ, List.getElem?_cons_zero]; rfl) (by kernel_rfl) (by kernel_rfl) (by kernel_rfl) rfl (by exact fun _ _ _ h => h) (by rfl) ?_ (by assumption) ?_
        rotate_left
        · intro w hSw; (try dsimp only at hSw); go_simp; try (with_reducible rfl)
        try simp only [Act.put, List.setIfInBounds_toArray, List.set_cons_zero, List.set_cons_succ]
        refine wpAnyH_ready (rs := [5]) (by kernel_rfl) (by simp) ?_
        refine (AllReadyH.cons (o := _) (by simp only [List.getElem?_toArray, List.getElem?_cons_succ, List.getElem?_cons_zero]; rfl) (fun K hK => ?_) AllReadyH.nil)
        go_simp
        refine (HI.out _).mono ?_
        rintro e wx ⟨rfl, hwx⟩
        obtain rfl := hwx.symm
        have p_B0_0 := (cell_of_row (wr.drew) _ 0 _ _ _ B0.out).trans (show _ = some (Value.int .i64 sg) from rfl)
        have p_B0_1 := (cell_of_row (wr.drew) _ 1 _ _ _ B0.out).trans (show _ = some (Value.int .i64 ba) from rfl)
        have p_B0_2 := (cell_of_row (wr.drew) _ 2 _ _ _ B0.out).trans (show _ = some (Value.slice ia is.length ic) from rfl)
        have p_B0_3 := (cell_of_row (wr.drew) _ 3 _ _ _ B0.out).trans (show _ = some (Value.slice (some ⟨b, off, none⟩) ts.length tc) from rfl)
        have p_B0_4 := (cell_of_row (wr.drew) _ 4 _ _ _ B0.out).trans (show _ = some (Value.slice (some ⟨b2, off2, none⟩) rs.length rc) from rfl)
        have p_T0 := (d.out.cell (p := ⟨b, off + k, none⟩) BL.out).trans T0.out
        have p_R0 := (d.out.cell (p := ⟨b2, off2 + k, none⟩) BL2.out).trans R0.out
        refine hK.out _ _ ⟨p_B0_0, p_B0_1, p_B0_2, p_B0_3, p_B0_4, p_T0, p_R0⟩ (fun hHeld => ?_)
        clear p_B0_0 p_B0_1 p_B0_2 p_B0_3 p_B0_4 p_T0 p_R0
        clear hK K
        try simp only [Act.put, List.setIfInBounds_toArray, List.set_cons_zero, List.set_cons_succ]
        refine take_runs (i := 6) (v := ?_) (by simp only [List.getElem?_toArray, List.getElem?_cons_succ, List.getElem?_cons_zero]; rfl) (by kernel_rfl) (by kernel_rfl) (by kernel_rfl) rfl (by exact fun _ _ _ h => h) (by rfl) ?_ (by assumption) ?_
        rotate_left
        · intro w hSw; (try dsimp only at hSw); go_simp; try (with_reducible rfl)
        try simp only [Act.put, List.setIfInBounds_toArray, List.set_cons_zero, List.set_cons_succ]
        refine take_runs (i := 7) (v := ?_) (by simp only [List.getElem?_toArray, List.getElem?_cons_succ, List.getElem?_cons_zero]; rfl) (by kernel_rfl) (by kernel_rfl) (by kernel_rfl) rfl (by exact fun _ _ _ h => h) (by rfl) ?_ (by assumption) ?_
        rotate_left
        · intro w hSw; (try dsimp only at hSw); go_simp; try (with_reducible rfl)
        try simp only [Act.put, List.setIfInBounds_toArray, List.set_cons_zero, List.set_cons_succ]
        refine take_over (i := 8) (by simp only [List.getElem?_toArray, List.getElem?_cons_succ, List.getElem?_cons_zero]; rfl) (by kernel_rfl) (by kernel_rfl) (by kernel_rfl) rfl (by exact fun _ _ _ h => h) (by rfl) (by assumption) ?_
        try simp only [Act.put, List.setIfInBounds_toArray, List.set_cons_zero, List.set_cons_succ]
        refine take_over (i := 9) (by simp only [List.getElem?_toArray, List.getElem?_cons_succ, List.getElem?_cons_zero]; rfl) (by kernel_rfl) (by kernel_rfl) (by kernel_rfl) rfl (by exact fun _ _ _ h => h) (by rfl) (by assumption) ?_
        try simp only [Act.put, List.setIfInBounds_toArray, List.set_cons_zero, List.set_cons_succ]
        refine take_over (i := 10) (by simp only [List.getElem?_toArray, List.getElem?_cons_succ, List.getElem?_cons_zero]; rfl) (by kernel_rfl) (by kernel_rfl) (by kernel_rfl) rfl (by exact fun _ _ _ h => h) (by rfl) (by assumption) ?_
        try simp only [Act.put, List.setIfInBounds_toArray, List.set_cons_zero, List.set_cons_succ]
        refine take_over (i := 11) (by simp only [List.getElem?_toArray, List.getElem?_cons_succ, List.getElem?_cons_zero]; rfl) (by kernel_rfl) (by kernel_rfl) (by kernel_rfl) rfl (by exact fun _ _ _ h => h) (by rfl) (by assumption) ?_
        try simp only [Act.put, List.setIfInBounds_toArray, List.set_cons_zero, List.set_cons_succ]
        refine take_over (i := 12) (by simp only [List.getElem?_toArray, List.getElem?_cons_succ, List.getElem?_cons_zero]; rfl) (by kernel_rfl) (by kernel_rfl) (by kernel_rfl) rfl (by exact fun _ _ _ h => h) (by rfl) (by assumption) ?_
        try simp only [Act.put, List.setIfInBounds_toArray, List.set_cons_zero, List.set_cons_succ]
        refine take_over (i := 13) (by simp only [List.getElem?_toArray, List.getElem?_cons_succ, List.getElem?_cons_zero]; rfl) (by kernel_rfl) (by kernel_rfl) (by kernel_rfl) rfl (by exact fun _ _ _ h => h) (by rfl) (by assumption) ?_
        try simp only [Act.put, List.setIfInBounds_toArray, List.set_cons_zero, List.set_cons_succ]
        refine take_over (i := 14) (by simp only [List.getElem?_toArray, List.getElem?_cons_succ, List.getElem?_cons_zero]; rfl) (by kernel_rfl) (by kernel_rfl) (by kernel_rfl) rfl (by exact fun _ _ _ h => h) (by rfl) (by assumption) ?_
        try simp only [Act.put, List.setIfInBounds_toArray, List.set_cons_zero, List.set_cons_succ]
        refine take_over (i := 15) (by simp only [List.getElem?_toArray, List.getElem?_cons_succ, List.getElem?_cons_zero]; rfl) (by kernel_rfl) (by kernel_rfl) (by kernel_rfl) rfl (by exact fun _ _ _ h => h) (by rfl) (by assumption) ?_
        try simp only [Act.put, List.setIfInBounds_toArray, List.set_cons_zero, List.set_cons_succ]
        refine take_over (i := 16) (by simp only [List.getElem?_toArray, List.getElem?_cons_succ, List.getElem?_cons_zero]; rfl) (by kernel_rfl) (by kernel_rfl) (by kernel_rfl) rfl (by exact fun _ _ _ h => h) (by rfl) (by assumption) ?_
        try simp only [Act.put, List.setIfInBounds_toArray, List.set_cons_zero, List.set_cons_succ]
        refine take_runs (i := 17) (v := ?_) (by simp only [List.getElem?_toArray, List.getElem?_cons_succ, List.getElem?_cons_zero]; rfl) (by kernel_rfl) (by kernel_rfl) (by kernel_rfl) rfl (by exact fun _ _ _ h => h) (by rfl) ?_ (by assumption) ?_
        rotate_left
        · intro w hSw; (try dsimp only at hSw); go_simp; try (with_reducible rfl)
        try simp only [Act.put, List.setIfInBounds_toArray, List.set_cons_zero, List.set_cons_succ]
        refine wpAnyH_done (by kernel_rfl) ?_ _
        clear hHeld
        go_wp2
        go_ret
        exact ⟨ret_b HF.out.symm, d.out⟩
    · obtain rfl : k = is.length := by omega
      have HT : Hid (chargeB (sg, ba, is, ts, rs) = true) := Lib.hid (charge_yes HSET.out HH.out (allB_yes 0 (by have := hno.out.1; have e := HP3.out; simp only; rw [e]; exact this)) (allB_yes 0 (by have := hno.out.2; have e := HP4.out; simp only; rw [e]; exact this)))
      clear hno
      have p_B0_0 := (cell_of_row wr _ 0 _ _ _ B0.out).trans (show _ = some (Value.int .i64 sg) from rfl)
      have p_B0_1 := (cell_of_row wr _ 1 _ _ _ B0.out).trans (show _ = some (Value.int .i64 ba) from rfl)
      have p_B0_2 := (cell_of_row wr _ 2 _ _ _ B0.out).trans (show _ = some (Value.slice ia is.length ic) from rfl)
      have p_B0_3 := (cell_of_row wr _ 3 _ _ _ B0.out).trans (show _ = some (Value.slice ta ts.length tc) from rfl)
      have p_B0_4 := (cell_of_row wr _ 4 _ _ _ B0.out).trans (show _ = some (Value.slice ra rs.length rc) from rfl)
      go_wp2
      clear p_B0_0 p_B0_1 p_B0_2 p_B0_3 p_B0_4
      go_ret
      exact ⟨ret_b HT.out.symm, d.out⟩
end Go.Proofs.YtjeaimdnddelpaaDoor
namespace Go.Proofs.YtjeaimdnddelpaaDoor
/-- The decimal digits of u. -/
def decI (u : Nat) : List Int := if u < 10 then [48 + (u : Int)] else decI (u / 10) ++ [48 + ((u % 10 : Nat) : Int)]
  termination_by u
  decreasing_by omega
theorem decI_small (u : Nat) (h : u < 10) : decI u = [48 + (u : Int)] := by rw [decI, if_pos h]
theorem decI_big (u : Nat) (h : 10 ≤ u) : decI u = decI (u / 10) ++ [48 + ((u % 10 : Nat) : Int)] := by rw [decI, if_neg (by omega)]
theorem decI_digits (u : Nat) : (decI u).map (fun n => UInt8.ofNat n.toNat) = Lib.decDigits u := by
  induction u using Nat.strongRecOn with
  | _ u ih =>
    by_cases h : u < 10
    · rw [decI_small u h, Lib.decDigits_one h]
      simp only [List.map_cons, List.map_nil]
      rw [show (48 + (u : Int)).toNat = 48 + u by omega]
    · rw [decI_big u (by omega), Lib.decDigits, dif_neg h, List.map_append, ih _ (by omega)]
      simp only [List.map_cons, List.map_nil]
      rw [show (48 + ((u % 10 : Nat) : Int)).toNat = 48 + u % 10 by omega]
theorem str_decI (u : Nat) : strOfNums (decI u) = ⟨(Lib.itoa (u : Int)).toArray⟩ := by
  unfold strOfNums; rw [decI_digits, Lib.itoa_nonneg]
theorem str_decI_neg (u : Nat) (h : 1 ≤ u) : strOfNums (45 :: decI u) = ⟨(Lib.itoa (-(u : Int))).toArray⟩ := by
  unfold strOfNums; rw [List.map_cons, decI_digits, Lib.itoa_neg u h]; rfl
theorem decI_length (u : Nat) (h : u ≤ 9223372036854775808) (h1 : 1 ≤ u) : (decI u).length ≤ 21 := by
  have h2 := Lib.itoa_length_le (-(u : Int)) (by omega) (by omega)
  rw [Lib.itoa_neg u h1, ← decI_digits] at h2
  simp at h2
  omega
/-- What the loop has made of u: xs, and m is left. -/
def DecInv (u m : Nat) (xs : List Int) : Prop := if m = 0 then xs = decI u else decI m ++ xs = decI u
theorem decInv_start (u : Nat) (h : 1 ≤ u) : DecInv u u [] := by unfold DecInv; rw [if_neg (by omega)]; simp
theorem decInv_step {u m : Nat} {xs : List Int} (h : DecInv u m xs) (hm : 1 ≤ m) : DecInv u (m / 10) ((48 + ((m % 10 : Nat) : Int)) :: xs) := by
  unfold DecInv at *
  rw [if_neg (by omega)] at h
  by_cases h10 : m < 10
  · rw [if_pos (by omega), ← h, decI_small m h10, show m % 10 = m by omega]; rfl
  · rw [if_neg (by omega), ← h, decI_big m (by omega)]; simp
theorem decInv_end {u : Nat} {xs : List Int} (h : DecInv u 0 xs) : xs = decI u := by unfold DecInv at h; rwa [if_pos rfl] at h
theorem decInv_len {u m : Nat} {xs : List Int} (h : DecInv u m xs) (hu : u ≤ 9223372036854775808) (h1 : 1 ≤ u) : xs.length ≤ 21 := by
  have h2 := decI_length u hu h1
  unfold DecInv at h
  split at h
  · rw [h]; exact h2
  · rw [← h] at h2; simp at h2; omega
end Go.Proofs.YtjeaimdnddelpaaDoor
namespace Go.Proofs.YtjeaimdnddelpaaDoor
open Go.RowKit
set_option linter.unusedVariables false
theorem specFmt_zero (w : World) : Calls Tryd.prog 37 #[.int .i64 0] w fun e w' => e = .returned (.string ⟨#[48]⟩) ∧ Below w.heap.size w w' := by
  go_enter Tryd.func37, Tryd.ntmps37
  go_wp2
  go_ret
  exact ⟨rfl, Below.refl _ _⟩
set_option maxRecDepth 100000 in
theorem specFmt_pos (u : Nat) (w : World) (h1 : 1 ≤ u) (h2 : u ≤ 9223372036854775807) : Calls Tryd.prog 37 #[.int .i64 u] w fun e w' => e = .returned (.string (strOfNums (decI u))) ∧ Below w.heap.size w w' := by
  have hcv := string_lit1
  have hz : ((u : Int) == 0) = false := by rw [beq_eq_false_iff_ne]; omega
  have hneg : decide ((u : Int) < 0) = false := by simp
  go_enter Tryd.func37, Tryd.ntmps37
  go_wp2
  go_loopw [0, 3] (fun n s wr => ∃ (m : Nat) (xs : List Int), m ≤ u ∧ n = .int .i64 m ∧ s = .string (strOfNums xs) ∧ Below w.heap.size w wr ∧ Hid (DecInv u m xs)) (fun n _ _ => (intOf n).toNat)
  case atStart => exact ⟨u, [], Nat.le_refl _, rfl, rfl, Below.refl _ _, Lib.hid (decInv_start u h1)⟩
  case round =>
    obtain ⟨m, xs, hm, rfl, rfl, hbel, hinv⟩ := hrel
    have hB := hbel.size
    by_cases hlt : 1 ≤ m
    · have hz : ((m : Int) != 0) = true := by rw [bne_iff_ne]; omega
      have HS := Lib.hid (decInv_step hinv.out hlt)
      have hl := decInv_len hinv.out (by omega) h1
      have hb2 := hbel.alloc hB (.cells #[.int .u8 (48 + (m : Int) % 10)] 5)
      have hadd := concat_cons (48 + (m : Int) % 10) xs (by omega)
      have hml : m / 10 < m := by omega
      go_wp2
      go_roundw
      case rel => exact ⟨m / 10, _, by omega, by go_num, by rfl, hb2, by have := HS.out; simpa using Lib.hid this⟩
      case measure => simp [intOf]; omega
    · obtain rfl : m = 0 := by omega
      have HE := Lib.hid (decInv_end hinv.out)
      go_wp2
      go_ret
      exact ⟨ret_strI HE.out, hbel⟩
set_option maxRecDepth 100000 in
theorem specFmt_neg (u : Nat) (w : World) (h1 : 1 ≤ u) (h2 : u ≤ 9223372036854775808) : Calls Tryd.prog 37 #[.int .i64 (-(u : Int))] w fun e w' => e = .returned (.string (strOfNums (45 :: decI u))) ∧ Below w.heap.size w w' := by
  have hcv := string_lit1
  have hz : ((-(u : Int)) == 0) = false := by rw [beq_eq_false_iff_ne]; omega
  have hneg : decide (0 < u) = true := by simp; omega
  have H2 := Lib.hid h2; clear h2
  go_enter Tryd.func37, Tryd.ntmps37
  go_wp2
  go_loopw [0, 3] (fun n s wr => ∃ (m : Nat) (xs : List Int), m ≤ u ∧ n = .int .i64 (-(m : Int)) ∧ s = .string (strOfNums xs) ∧ Below w.heap.size w wr ∧ Hid (DecInv u m xs)) (fun n _ _ => (-(intOf n)).toNat)
  case atStart => exact ⟨u, [], Nat.le_refl _, rfl, rfl, Below.refl _ _, Lib.hid (decInv_start u h1)⟩
  case round =>
    obtain ⟨m, xs, hm, rfl, rfl, hbel, hinv⟩ := hrel
    have hB := hbel.size
    by_cases hlt : 1 ≤ m
    · have hz : ((-(m : Int)) != 0) = true := by rw [bne_iff_ne]; omega
      have HS := Lib.hid (decInv_step hinv.out hlt)
      have hl := decInv_len hinv.out H2.out h1
      have hml : m / 10 < m := by omega
      have e1 : (-(m : Int)).tmod 10 = -((m : Int) % 10) := by rw [Int.neg_tmod, Int.tmod_eq_emod_of_nonneg (by omega)]
      have e2 : (-(m : Int)).tdiv 10 = -((m : Int) / 10) := by rw [Int.neg_tdiv, Int.tdiv_eq_ediv_of_nonneg (by omega)]
      have hbd : (m : Int) / 10 ≤ 922337203685477580 := by have := H2.out; omega
      by_cases hr : m % 10 = 0
      · have hr' : (m : Int) % 10 = 0 := by omega
        have HX : Hid (DecInv u (m / 10) (48 :: xs)) := Lib.hid (by have := HS.out; rwa [show ((m % 10 : Nat) : Int) = 0 by omega] at this)
        have hadd := concat_cons 48 xs (by omega)
        have hb2 := hbel.alloc hB (.cells #[.int .u8 48] 5)
        rw [hr'] at e1
        clear hr hr' HS
        go_wp2
        go_roundw
        case rel => exact ⟨m / 10, _, by omega, by go_num, by rfl, hb2, HX⟩
        case measure => simp [intOf]; omega
      · have hr' : 0 < (m : Int) % 10 := by omega
        have hadd := concat_cons (48 + (m : Int) % 10) xs (by omega)
        have hb2 := hbel.alloc hB (.cells #[.int .u8 (48 + (m : Int) % 10)] 5)
        clear hr
        go_wp2
        go_roundw
        case rel => exact ⟨m / 10, _, by omega, by go_num, by rfl, hb2, by have := HS.out; simpa using Lib.hid this⟩
        case measure => simp [intOf]; omega
    · obtain rfl : m = 0 := by omega
      have HE := Lib.hid (decInv_end hinv.out)
      have hl := decInv_len hinv.out H2.out h1
      have hadd := concat_cons 45 xs (by omega)
      have hadd' : ∀ w, (Op.stringOp .add ⟨#[45]⟩ (strOfNums xs)).run Tryd.prog w = .ok (.string (strOfNums (45 :: xs))) w := hadd
      go_wp2
      go_ret
      exact ⟨ret_strI (by rw [HE.out]), hbel⟩
theorem specFmt (n : Int) (w : World) (h0 : -9223372036854775808 ≤ n) (h1 : n ≤ 9223372036854775807) : Calls Tryd.prog 37 #[.int .i64 n] w fun e w' => e = .returned (.string ⟨(Lib.itoa n).toArray⟩) ∧ Below w.heap.size w w' := by
  by_cases hz : n = 0
  · subst hz; rw [show Lib.itoa 0 = [48] by unfold Lib.itoa; rw [if_neg (by decide)]; exact Lib.decDigits_one (by decide)]; exact specFmt_zero w
  · by_cases hp : 0 < n
    · obtain ⟨u, rfl⟩ := Int.eq_ofNat_of_zero_le (show 0 ≤ n by omega)
      rw [← str_decI]; exact specFmt_pos u w (by omega) (by omega)
    · obtain ⟨u, hu⟩ := Int.eq_ofNat_of_zero_le (show 0 ≤ -n by omega)
      obtain rfl : n = -(u : Int) := by omega
      rw [← str_decI_neg u (by omega)]; exact specFmt_neg u w (by omega) (by omega)
/-- The library's table reads as its text lays it. -/
def Tab (w : World) : Prop := Lib.TabIs Tryd.prog w "internal/strconv.uint64pow10" .u64 Lib.pow10Tab
theorem Tab.on {w w' : World} (h : Tab w) (hb : Below w.heap.size w w') : Tab w' := Lib.tabBelow_of_tabIs h w' hb
theorem implFmt (n : Int) (w : World) (h0 : -9223372036854775808 ≤ n) (h1 : n ≤ 9223372036854775807) (htab : Tab w) : Calls Tryd.prog 35 #[.int .i64 n] w fun e w' => e = .returned (.string ⟨(Lib.itoa n).toArray⟩) ∧ Below w.heap.size w w' := by
  have H := Lib.hid htab; clear htab
  go_enter Tryd.func35, Tryd.ntmps35
  go_wp2_with (go_at_call 49; refine (Tryd.strconv_Itoa n h0 h1 _ H.out).mono ?_; rintro e w' ⟨rfl, k, os, rfl⟩)
  go_ret
  exact ⟨rfl, Lib.below_grow _ _ (Nat.le_refl _) k os⟩
end Go.Proofs.YtjeaimdnddelpaaDoor
namespace Go.Proofs.YtjeaimdnddelpaaDoor
/-- The runs of adjacent numbers. -/
def runs : List Int → List (Int × Int)
  | [] => []
  | x :: r => match runs r with
    | [] => [(x, x)]
    | (a, b) :: t => if a = x + 1 then (x, b) :: t else (x, x) :: (a, b) :: t
end Go.Proofs.YtjeaimdnddelpaaDoor
namespace Go.Proofs.YtjeaimdnddelpaaDoor
open Go.RowKit
set_option linter.unusedVariables false
/-- A text as a string. -/
def strB (l : List UInt8) : ByteArray := ⟨l.toArray⟩
theorem strB_size (l : List UInt8) : (strB l).size = l.length := by simp [strB, ByteArray.size]
theorem strB_add (a b : List UInt8) (h : a.length + b.length ≤ 1073741824) (w : World) : (Op.stringOp .add (strB a) (strB b)).run Tryd.prog w = .ok (.string (strB (a ++ b))) w := by
  rw [run_string_add_sum w _ _ (by rw [strB_size, strB_size]; omega)]
  congr 2
theorem ret_s {a b : List UInt8} (h : a = b) : Ending.returned (.string (strB a)) = .returned (.string (strB b)) := by rw [h]
end Go.Proofs.YtjeaimdnddelpaaDoor
namespace Go.Proofs.YtjeaimdnddelpaaDoor
open Go.RowKit
set_option linter.unusedVariables false
set_option linter.unusedSimpArgs false
theorem fmtAny (n : Int) (w : World) (h0 : 0 ≤ n) (h1 : n ≤ 999) : Calls Tryd.prog 37 #[.int .i64 n] w fun e w' => e = .returned (.string (strB (Lib.itoa n))) ∧ Below w.heap.size w w' := specFmt n w (by omega) (by omega)
end Go.Proofs.YtjeaimdnddelpaaDoor
namespace Go.Proofs.YtjeaimdnddelpaaDoor
open Go.RowKit
set_option linter.unusedVariables false
set_option linter.unusedSimpArgs false
def chgHead (sg ba : Int) : List UInt8 := Lib.itoa sg ++ [32, 98, 97, 115, 101, 32] ++ Lib.itoa ba
def chgW (id r : Int) : List UInt8 := [113] ++ Lib.itoa id ++ [43] ++ Lib.itoa r
def chgTo (x : ChargeD) : Nat → List UInt8
  | 0 => chgHead x.1 x.2.1
  | k + 1 => chgTo x k ++ [32, 113] ++ Lib.itoa (x.2.2.1.getD k 0) ++ [43] ++ Lib.itoa (x.2.2.2.2.getD k 0)
def fmtC (x : ChargeD) : List UInt8 := if chargeB x then chgTo x x.2.2.1.length else []
theorem fmtC_yes {x : ChargeD} (h : chargeB x = true) : fmtC x = chgTo x x.2.2.1.length := by unfold fmtC; rw [if_pos h]
theorem fmtC_no {x : ChargeD} (h : chargeB x = false) : fmtC x = [] := by unfold fmtC; rw [if_neg (by rw [h]; simp)]
def wordsC (x : ChargeD) : Nat → List (List UInt8)
  | 0 => [Lib.itoa x.1, [98, 97, 115, 101], Lib.itoa x.2.1]
  | k + 1 => wordsC x k ++ [chgW (x.2.2.1.getD k 0) (x.2.2.2.2.getD k 0)]
theorem wordsC_len (x : ChargeD) : ∀ k, (wordsC x k).length = k + 3
  | 0 => rfl
  | k + 1 => by rw [wordsC, List.length_append, wordsC_len x k]; rfl
theorem join_snocC (sep x : List UInt8) : ∀ l : List (List UInt8), l ≠ [] → Lib.join (l ++ [x]) sep = Lib.join l sep ++ sep ++ x
  | [], h => absurd rfl h
  | a :: r, _ => by
    rw [List.cons_append, Lib.join_cons, Lib.join_cons]
    simp [Lib.joinTail]
theorem join_wordsC (x : ChargeD) : ∀ k, Lib.join (wordsC x k) [32] = chgTo x k
  | 0 => by simp [wordsC, chgTo, chgHead, Lib.join, List.intercalate]
  | k + 1 => by
    have h : wordsC x k ≠ [] := fun e => by have := wordsC_len x k; rw [e] at this; simp at this
    rw [wordsC, join_snocC _ _ _ h, join_wordsC x k, chgTo]
    simp [chgW]
theorem chg_id {x : ChargeD} (h : chargeB x = true) {i : Nat} (hi : i < x.2.2.1.length) : 0 ≤ x.2.2.1.getD i 0 ∧ x.2.2.1.getD i 0 ≤ 23 := ((setB_iff _).1 (charge_iff h).1).1 i hi
theorem chgTo_len {x : ChargeD} (h : chargeB x = true) : ∀ k, k ≤ x.2.2.1.length → (chgTo x k).length ≤ 60 + 60 * k
  | 0, _ => by
    obtain ⟨_, ⟨_, _, ⟨h1, h2⟩, h3, h4⟩, _, _⟩ := charge_iff h
    have l1 := Lib.itoa_length_le x.1 (by omega) (by omega)
    have l2 := Lib.itoa_length_le x.2.1 (by omega) (by omega)
    simp only [chgTo, chgHead, List.length_append, List.length_cons, List.length_nil]
    omega
  | k + 1, hk => by
    have ih := chgTo_len h k (by omega)
    have q := chg_id h (i := k) (by omega)
    have r := chg_row h (i := k) (by have := (charge_iff h).2.1.2.1.2; omega)
    have b := (charge_iff h).2.1.2.2.2
    have l1 := Lib.itoa_length_le (x.2.2.1.getD k 0) (by omega) (by omega)
    have l2 := Lib.itoa_length_le (x.2.2.2.2.getD k 0) (by omega) (by omega)
    simp only [chgTo, List.length_append, List.length_cons, List.length_nil]
    omega
set_option maxHeartbeats 8000000 in
set_option maxRecDepth 100000 in
theorem specFormatCharge (sg ba : Int) (v2 v3 v4 : Value) (x2 x3 x4 : List Int) (w : World) (h2 : SlR tInt w v2 x2) (h3 : SlR tInt w v3 x3) (h4 : SlR tInt w v4 x4) (n2 : x2.length ≤ 1048576) (n3 : x3.length ≤ 1048576) (n4 : x4.length ≤ 1048576) :
    Calls Tryd.prog 14 #[.agg #[.int .i64 sg, .int .i64 ba, v2, v3, v4]] w (fun e w' => e = .returned (.string (strB (fmtC (sg, ba, x2, x3, x4)))) ∧ Below w.heap.size w w') := by
  obtain ⟨p2, c2, rfl⟩ := slR_len h2
  have H2 := Lib.hid h2
  obtain ⟨p3, c3, rfl⟩ := slR_len h3
  have H3 := Lib.hid h3
  obtain ⟨p4, c4, rfl⟩ := slR_len h4
  have H4 := Lib.hid h4
  clear h2 h3 h4
  have d := Lib.hid (show Below w.heap.size w (w.alloc (.cells #[.int .i64 sg, .int .i64 ba, .slice p2 x2.length c2, .slice p3 x3.length c3, .slice p4 x4.length c4] 26)) from ((Below.refl _ w).alloc (Nat.le_refl _) _))
  have B0 : Hid ((w.alloc (.cells #[.int .i64 sg, .int .i64 ba, .slice p2 x2.length c2, .slice p3 x3.length c3, .slice p4 x4.length c4] 26)).heap[w.heap.size]? = some (.cells #[.int .i64 sg, .int .i64 ba, .slice p2 x2.length c2, .slice p3 x3.length c3, .slice p4 x4.length c4] 26 (0, 0))) := Lib.hid (by
    exact heap_alloc_new w _)
  have YW : Hid (w.heap.size + 1 ≤ (w.alloc (.cells #[.int .i64 sg, .int .i64 ba, .slice p2 x2.length c2, .slice p3 x3.length c3, .slice p4 x4.length c4] 26)).heap.size) := Lib.hid (by simp [World.size_alloc])
  go_enter Tryd.func14, Tryd.ntmps14
  go_wp2_with fail
  generalize (w.alloc (.cells #[.int .i64 sg, .int .i64 ba, .slice p2 x2.length c2, .slice p3 x3.length c3, .slice p4 x4.length c4] 26)) = W at *
  refine (specIsCharge sg ba (.slice p2 x2.length c2) (.slice p3 x3.length c3) (.slice p4 x4.length c4) x2 x3 x4 W (slR_below tInt_law H2.out d.out) (slR_below tInt_law H3.out d.out) (slR_below tInt_law H4.out d.out) n2 n3 n4).mono ?_
  rintro e W1 ⟨rfl, c⟩
  replace B0 := Lib.hid ((c.block w.heap.size (Array.getElem?_eq_some_iff.1 B0.out).1).trans B0.out)
  replace d := Lib.hid (d.out.trans (c.mono d.out.size))
  have Z_W1 := Lib.hid (show W.heap.size ≤ W1.heap.size from c.size)
  clear c
  rcases Bool.eq_false_or_eq_true (chargeB (sg, ba, x2, x3, x4)) with hch | hch
  rotate_left
  · rw [hch]
    have HF := Lib.hid (fmtC_no hch)
    clear hch
    have p_B0_0 := (cell_of_row W1 _ 0 _ _ _ B0.out).trans (show _ = some (Value.int .i64 sg) from rfl)
    have p_B0_1 := (cell_of_row W1 _ 1 _ _ _ B0.out).trans (show _ = some (Value.int .i64 ba) from rfl)
    have p_B0_2 := (cell_of_row W1 _ 2 _ _ _ B0.out).trans (show _ = some (Value.slice p2 x2.length c2) from rfl)
    have p_B0_3 := (cell_of_row W1 _ 3 _ _ _ B0.out).trans (show _ = some (Value.slice p3 x3.length c3) from rfl)
    have p_B0_4 := (cell_of_row W1 _ 4 _ _ _ B0.out).trans (show _ = some (Value.slice p4 x4.length c4) from rfl)
    go_wp2
    clear p_B0_0 p_B0_1 p_B0_2 p_B0_3 p_B0_4
    go_ret
    exact ⟨ret_s HF.out.symm, d.out⟩
  rw [hch]
  have HCH := Lib.hid hch
  have HP := Lib.hid (charge_iff hch).2.1
  have HF := Lib.hid (fmtC_yes hch)
  have HLN := Lib.hid (chgTo_len hch)
  have HL4 : Hid (x4.length = x2.length) := Lib.hid HP.out.2.1.2
  have hl8 : x2.length ≤ 8 := HP.out.1.2
  have hsg := HP.out.2.2.1
  have hba := HP.out.2.2.2
  have HID := Lib.hid (fun i hi => chg_id (x := (sg, ba, x2, x3, x4)) hch (i := i) hi)
  have HRW := Lib.hid (fun i hi => chg_row (x := (sg, ba, x2, x3, x4)) hch (i := i) hi)
  dsimp only at hsg hba HID HRW HLN HF
  clear hch
  have HR1 := Lib.hid (fun W => fmtAny sg W hsg.1 (by omega))
  have HR2 := Lib.hid (fun W => fmtAny ba W hba.1 (by omega))
  have l1 := Lib.itoa_length_le sg (by omega) (by omega)
  have l2 := Lib.itoa_length_le ba (by omega) (by omega)
  have HC0 : Hid (chgTo (sg, ba, x2, x3, x4) 0 = Lib.itoa sg ++ [32, 98, 97, 115, 101, 32] ++ Lib.itoa ba) := Lib.hid rfl
  obtain ⟨t1, ht1⟩ : ∃ t1, Lib.itoa sg = t1 := ⟨_, rfl⟩
  obtain ⟨t2, ht2⟩ : ∃ t2, Lib.itoa ba = t2 := ⟨_, rfl⟩
  rw [ht1] at HR1 HC0 l1
  rw [ht2] at HR2 HC0 l2
  clear ht1 ht2
  have e0 : (⟨#[32, 98, 97, 115, 101, 32]⟩ : ByteArray) = strB [32, 98, 97, 115, 101, 32] := rfl
  have d0 := strB_add t1 [32, 98, 97, 115, 101, 32] (by simp; omega)
  have d1 := strB_add (t1 ++ [32, 98, 97, 115, 101, 32]) t2 (by simp; omega)
  generalize t1 ++ [32, 98, 97, 115, 101, 32] = s1 at *
  generalize s1 ++ t2 = s2 at *
  clear l1 l2
  have p_B0_0 := (cell_of_row W1 _ 0 _ _ _ B0.out).trans (show _ = some (Value.int .i64 sg) from rfl)
  have p_B0_1 := (cell_of_row W1 _ 1 _ _ _ B0.out).trans (show _ = some (Value.int .i64 ba) from rfl)
  have p_B0_2 := (cell_of_row W1 _ 2 _ _ _ B0.out).trans (show _ = some (Value.slice p2 x2.length c2) from rfl)
  have p_B0_3 := (cell_of_row W1 _ 3 _ _ _ B0.out).trans (show _ = some (Value.slice p3 x3.length c3) from rfl)
  have p_B0_4 := (cell_of_row W1 _ 4 _ _ _ B0.out).trans (show _ = some (Value.slice p4 x4.length c4) from rfl)
  go_wp2
  clear p_B0_0 p_B0_1 p_B0_2 p_B0_3 p_B0_4
  have p_B0_0 := (cell_of_row W1 _ 0 _ _ _ B0.out).trans (show _ = some (Value.int .i64 sg) from rfl)
  have p_B0_1 := (cell_of_row W1 _ 1 _ _ _ B0.out).trans (show _ = some (Value.int .i64 ba) from rfl)
  have p_B0_2 := (cell_of_row W1 _ 2 _ _ _ B0.out).trans (show _ = some (Value.slice p2 x2.length c2) from rfl)
  have p_B0_3 := (cell_of_row W1 _ 3 _ _ _ B0.out).trans (show _ = some (Value.slice p3 x3.length c3) from rfl)
  have p_B0_4 := (cell_of_row W1 _ 4 _ _ _ B0.out).trans (show _ = some (Value.slice p4 x4.length c4) from rfl)
  refine wp_region_held_drew (S := fun w' => w'.cell? ⟨w.heap.size, 0, none⟩ = some (Value.int .i64 sg) ∧ w'.cell? ⟨w.heap.size, 1, none⟩ = some (Value.int .i64 ba) ∧ w'.cell? ⟨w.heap.size, 2, none⟩ = some (Value.slice p2 x2.length c2) ∧ w'.cell? ⟨w.heap.size, 3, none⟩ = some (Value.slice p3 x3.length c3) ∧ w'.cell? ⟨w.heap.size, 4, none⟩ = some (Value.slice p4 x4.length c4)) (by kernel_rfl) ⟨p_B0_0, p_B0_1, p_B0_2, p_B0_3, p_B0_4⟩ (fun hHeld => ?_)
  clear p_B0_0 p_B0_1 p_B0_2 p_B0_3 p_B0_4
  have cdr : Below W1.heap.size W1 W1.drew := below_drew (Below.refl _ _)
  replace B0 := Lib.hid ((cdr.block w.heap.size (Array.getElem?_eq_some_iff.1 B0.out).1).trans B0.out)
  replace d := Lib.hid (d.out.trans (cdr.mono d.out.size))
  clear cdr
  have Z_dr := Lib.hid (show W1.heap.size ≤ W1.drew.heap.size from Nat.le_refl _)
  generalize W1.drew = Wd at *
  refine take_runs (i := 0) (v := ?_) (by simp only [List.getElem?_toArray, List.getElem?_cons_succ, List.getElem?_cons_zero]; rfl) (by kernel_rfl) (by kernel_rfl) (by kernel_rfl) rfl (by exact fun _ _ _ h => h) (by rfl) ?_ (by assumption) ?_
  rotate_left
  · intro w hSw; (try dsimp only at hSw); go_simp; try (with_reducible rfl)
  try simp only [Act.put, List.setIfInBounds_toArray, List.set_cons_zero, List.set_cons_succ]
  refine take_runs (i := 1) (v := ?_) (by simp only [List.getElem?_toArray, List.getElem?_cons_succ, List.getElem?_cons_zero]; rfl) (by kernel_rfl) (by kernel_rfl) (by kernel_rfl) rfl (by exact fun _ _ _ h => h) (by rfl) ?_ (by assumption) ?_
  rotate_left
  · intro w hSw; (try dsimp only at hSw); go_simp; try (with_reducible rfl)
  try simp only [Act.put, List.setIfInBounds_toArray, List.set_cons_zero, List.set_cons_succ]
  refine take_runs (i := 4) (v := ?_) (by simp only [List.getElem?_toArray, List.getElem?_cons_succ, List.getElem?_cons_zero]; rfl) (by kernel_rfl) (by kernel_rfl) (by kernel_rfl) rfl (by exact fun _ _ _ h => h) (by rfl) ?_ (by assumption) ?_
  rotate_left
  · intro w hSw; (try dsimp only at hSw); go_simp; try (with_reducible rfl)
  try simp only [Act.put, List.setIfInBounds_toArray, List.set_cons_zero, List.set_cons_succ]
  refine take_runs (i := 5) (v := ?_) (by simp only [List.getElem?_toArray, List.getElem?_cons_succ, List.getElem?_cons_zero]; rfl) (by kernel_rfl) (by kernel_rfl) (by kernel_rfl) rfl (by exact fun _ _ _ h => h) (by rfl) ?_ (by assumption) ?_
  rotate_left
  · intro w hSw; (try dsimp only at hSw); go_simp; try (with_reducible rfl)
  try simp only [Act.put, List.setIfInBounds_toArray, List.set_cons_zero, List.set_cons_succ]
  refine wpAnyH_ready (rs := [2]) (by kernel_rfl) (by simp) ?_
  refine (AllReadyH.cons (o := _) (by simp only [List.getElem?_toArray, List.getElem?_cons_succ, List.getElem?_cons_zero]; rfl) (fun K hK => ?_) AllReadyH.nil)
  go_simp
  refine (HR1.out Wd).mono ?_
  rintro e v1 ⟨rfl, cv1⟩
  replace B0 := Lib.hid ((cv1.block w.heap.size (Array.getElem?_eq_some_iff.1 B0.out).1).trans B0.out)
  replace d := Lib.hid (d.out.trans (cv1.mono d.out.size))
  have Z_v1 := Lib.hid (show Wd.heap.size ≤ v1.heap.size from cv1.size)
  clear cv1
  have p_B0_0 := (cell_of_row v1 _ 0 _ _ _ B0.out).trans (show _ = some (Value.int .i64 sg) from rfl)
  have p_B0_1 := (cell_of_row v1 _ 1 _ _ _ B0.out).trans (show _ = some (Value.int .i64 ba) from rfl)
  have p_B0_2 := (cell_of_row v1 _ 2 _ _ _ B0.out).trans (show _ = some (Value.slice p2 x2.length c2) from rfl)
  have p_B0_3 := (cell_of_row v1 _ 3 _ _ _ B0.out).trans (show _ = some (Value.slice p3 x3.length c3) from rfl)
  have p_B0_4 := (cell_of_row v1 _ 4 _ _ _ B0.out).trans (show _ = some (Value.slice p4 x4.length c4) from rfl)
  refine hK.out _ _ ⟨p_B0_0, p_B0_1, p_B0_2, p_B0_3, p_B0_4⟩ (fun hHeld => ?_)
  clear p_B0_0 p_B0_1 p_B0_2 p_B0_3 p_B0_4
  clear hK K
  try simp only [Act.put, List.setIfInBounds_toArray, List.set_cons_zero, List.set_cons_succ]
  refine take_runs (i := 3) (v := ?_) (by simp only [List.getElem?_toArray, List.getElem?_cons_succ, List.getElem?_cons_zero]; rfl) (by kernel_rfl) (by kernel_rfl) (by kernel_rfl) rfl (by exact fun _ _ _ h => h) (by rfl) ?_ (by assumption) ?_
  rotate_left
  · intro w hSw; (try dsimp only at hSw); go_simp; try (with_reducible rfl)
  try simp only [Act.put, List.setIfInBounds_toArray, List.set_cons_zero, List.set_cons_succ]
  refine wpAnyH_ready (rs := [6]) (by kernel_rfl) (by simp) ?_
  refine (AllReadyH.cons (o := _) (by simp only [List.getElem?_toArray, List.getElem?_cons_succ, List.getElem?_cons_zero]; rfl) (fun K hK => ?_) AllReadyH.nil)
  go_simp
  refine (HR2.out v1).mono ?_
  rintro e v2 ⟨rfl, cv2⟩
  replace B0 := Lib.hid ((cv2.block w.heap.size (Array.getElem?_eq_some_iff.1 B0.out).1).trans B0.out)
  replace d := Lib.hid (d.out.trans (cv2.mono d.out.size))
  have Z_v2 := Lib.hid (show v1.heap.size ≤ v2.heap.size from cv2.size)
  clear cv2
  have p_B0_0 := (cell_of_row v2 _ 0 _ _ _ B0.out).trans (show _ = some (Value.int .i64 sg) from rfl)
  have p_B0_1 := (cell_of_row v2 _ 1 _ _ _ B0.out).trans (show _ = some (Value.int .i64 ba) from rfl)
  have p_B0_2 := (cell_of_row v2 _ 2 _ _ _ B0.out).trans (show _ = some (Value.slice p2 x2.length c2) from rfl)
  have p_B0_3 := (cell_of_row v2 _ 3 _ _ _ B0.out).trans (show _ = some (Value.slice p3 x3.length c3) from rfl)
  have p_B0_4 := (cell_of_row v2 _ 4 _ _ _ B0.out).trans (show _ = some (Value.slice p4 x4.length c4) from rfl)
  refine hK.out _ _ ⟨p_B0_0, p_B0_1, p_B0_2, p_B0_3, p_B0_4⟩ (fun hHeld => ?_)
  clear p_B0_0 p_B0_1 p_B0_2 p_B0_3 p_B0_4
  clear hK K
  try simp only [Act.put, List.setIfInBounds_toArray, List.set_cons_zero, List.set_cons_succ]
  refine take_runs (i := 7) (v := ?_) (by simp only [List.getElem?_toArray, List.getElem?_cons_succ, List.getElem?_cons_zero]; rfl) (by kernel_rfl) (by kernel_rfl) (by kernel_rfl) rfl (by exact fun _ _ _ h => h) (by rfl) ?_ (by assumption) ?_
  rotate_left
  · intro w hSw; (try dsimp only at hSw); go_simp; try (with_reducible rfl)
  try simp only [Act.put, List.setIfInBounds_toArray, List.set_cons_zero, List.set_cons_succ]
  refine take_runs (i := 8) (v := ?_) (by simp only [List.getElem?_toArray, List.getElem?_cons_succ, List.getElem?_cons_zero]; rfl) (by kernel_rfl) (by kernel_rfl) (by kernel_rfl) rfl (by exact fun _ _ _ h => h) (by rfl) ?_ (by assumption) ?_
  rotate_left
  · intro w hSw; (try dsimp only at hSw); go_simp; try (with_reducible rfl)
  try simp only [Act.put, List.setIfInBounds_toArray, List.set_cons_zero, List.set_cons_succ]
  refine wpAnyH_done (by kernel_rfl) ?_ _
  clear hHeld
  clear e0 d0 d1
  go_wp2
  go_loopw [3, 4] (fun t i wr => ∃ (k : Nat) (s : List UInt8), k ≤ x2.length ∧ i = .int .i64 k ∧ t = .string (strB s) ∧ Hid (s = chgTo (sg, ba, x2, x3, x4) k) ∧ Hid (wr.heap[w.heap.size]? = some (.cells #[.int .i64 sg, .int .i64 ba, .slice p2 x2.length c2, .slice p3 x3.length c3, .slice p4 x4.length c4] 26 (0, 0))) ∧ Below w.heap.size w wr) (fun _ i _ => x2.length - (intOf i).toNat)
  case atStart => exact ⟨0, s2, Nat.zero_le _, rfl, rfl, Lib.hid HC0.out.symm, B0, d.out⟩
  case round =>
    clear B0 d
    obtain ⟨k, s, hk, rfl, rfl, hs, B0, c⟩ := hrel
    have d := Lib.hid c
    clear c
    by_cases hlt : k < x2.length
    · have i1 : (0 : Int) ≤ (k : Int) := by omega
      have i2 : (k : Int) < (x2.length : Int) := by omega
      have i3 : k < x4.length := by have := HL4.out; omega
      have i4 : (k : Int) < (x4.length : Int) := by omega
      have hid := HID.out k hlt
      have hrw := HRW.out k i3
      obtain ⟨bu, offu, capu, hv, hbl, hc⟩ := ints_cell (slR_ints H2.out) (by omega)
      simp only [Value.slice.injEq] at hv
      obtain ⟨rfl, _, rfl⟩ := hv
      have F2 := Lib.hid (hc k (by omega))
      have LF2 := Lib.hid hbl
      clear hc hbl
      obtain ⟨br, offr, capr, hv, hbl, hc⟩ := ints_cell (slR_ints H4.out) (by omega)
      simp only [Value.slice.injEq] at hv
      obtain ⟨rfl, _, rfl⟩ := hv
      have F4 := Lib.hid (hc k (by omega))
      have LF4 := Lib.hid hbl
      clear hc hbl
      have HN : Hid (s ++ [32, 113] ++ Lib.itoa (x2.getD k 0) ++ [43] ++ Lib.itoa (x4.getD k 0) = chgTo (sg, ba, x2, x3, x4) (k + 1)) := Lib.hid (by rw [hs.out]; rfl)
      have HLS : Hid (s.length ≤ 60 + 60 * k) := Lib.hid (by rw [hs.out]; exact HLN.out k hk)
      clear hs
      generalize x2.getD k 0 = y at *
      generalize x4.getD k 0 = rv at *
      have HR3 := Lib.hid (fun W => fmtAny y W hid.1 (by omega))
      have HR4 := Lib.hid (fun W => fmtAny rv W hrw.1 (by omega))
      have l1 := Lib.itoa_length_le y (by omega) (by omega)
      have l2 := Lib.itoa_length_le rv (by omega) (by omega)
      obtain ⟨t3, ht3⟩ : ∃ t3, Lib.itoa y = t3 := ⟨_, rfl⟩
      obtain ⟨t4, ht4⟩ : ∃ t4, Lib.itoa rv = t4 := ⟨_, rfl⟩
      rw [ht3] at HR3 HN l1
      rw [ht4] at HR4 HN l2
      clear ht3 ht4
      have l3 := HLS.out
      have e0 : (⟨#[32, 113]⟩ : ByteArray) = strB [32, 113] := rfl
      have e1 : (⟨#[43]⟩ : ByteArray) = strB [43] := rfl
      have d0 := strB_add s [32, 113] (by simp; omega)
      have d1 := strB_add (s ++ [32, 113]) t3 (by simp; omega)
      have d2 := strB_add (s ++ [32, 113] ++ t3) [43] (by simp; omega)
      have d3 := strB_add (s ++ [32, 113] ++ t3 ++ [43]) t4 (by simp; omega)
      generalize s ++ [32, 113] = z1 at *
      generalize z1 ++ t3 = z2 at *
      generalize z2 ++ [43] = z3 at *
      generalize z3 ++ t4 = z4 at *
      clear l1 l2 l3 hid hrw
      have p_B0_0 := (cell_of_row wr _ 0 _ _ _ B0.out).trans (show _ = some (Value.int .i64 sg) from rfl)
      have p_B0_1 := (cell_of_row wr _ 1 _ _ _ B0.out).trans (show _ = some (Value.int .i64 ba) from rfl)
      have p_B0_2 := (cell_of_row wr _ 2 _ _ _ B0.out).trans (show _ = some (Value.slice (some ⟨bu, offu, none⟩) x2.length c2) from rfl)
      have p_B0_3 := (cell_of_row wr _ 3 _ _ _ B0.out).trans (show _ = some (Value.slice p3 x3.length c3) from rfl)
      have p_B0_4 := (cell_of_row wr _ 4 _ _ _ B0.out).trans (show _ = some (Value.slice (some ⟨br, offr, none⟩) x4.length c4) from rfl)
      go_wp2
      clear p_B0_0 p_B0_1 p_B0_2 p_B0_3 p_B0_4
      have p_B0_0 := (cell_of_row wr _ 0 _ _ _ B0.out).trans (show _ = some (Value.int .i64 sg) from rfl)
      have p_B0_1 := (cell_of_row wr _ 1 _ _ _ B0.out).trans (show _ = some (Value.int .i64 ba) from rfl)
      have p_B0_2 := (cell_of_row wr _ 2 _ _ _ B0.out).trans (show _ = some (Value.slice (some ⟨bu, offu, none⟩) x2.length c2) from rfl)
      have p_B0_3 := (cell_of_row wr _ 3 _ _ _ B0.out).trans (show _ = some (Value.slice p3 x3.length c3) from rfl)
      have p_B0_4 := (cell_of_row wr _ 4 _ _ _ B0.out).trans (show _ = some (Value.slice (some ⟨br, offr, none⟩) x4.length c4) from rfl)
      have p_F2 := (d.out.cell (p := ⟨bu, offu + k, none⟩) LF2.out).trans F2.out
      have p_F4 := (d.out.cell (p := ⟨br, offr + k, none⟩) LF4.out).trans F4.out
      refine wp_region_held_drew (S := fun w' => w'.cell? ⟨w.heap.size, 0, none⟩ = some (Value.int .i64 sg) ∧ w'.cell? ⟨w.heap.size, 1, none⟩ = some (Value.int .i64 ba) ∧ w'.cell? ⟨w.heap.size, 2, none⟩ = some (Value.slice (some ⟨bu, offu, none⟩) x2.length c2) ∧ w'.cell? ⟨w.heap.size, 3, none⟩ = some (Value.slice p3 x3.length c3) ∧ w'.cell? ⟨w.heap.size, 4, none⟩ = some (Value.slice (some ⟨br, offr, none⟩) x4.length c4) ∧ w'.cell? ⟨bu, offu + k, none⟩ = some (Value.int .i64 y) ∧ w'.cell? ⟨br, offr + k, none⟩ = some (Value.int .i64 rv)) (by kernel_rfl) ⟨p_B0_0, p_B0_1, p_B0_2, p_B0_3, p_B0_4, p_F2, p_F4⟩ (fun hHeld => ?_)
      clear p_B0_0 p_B0_1 p_B0_2 p_B0_3 p_B0_4 p_F2 p_F4
      have cdr : Below wr.heap.size wr wr.drew := below_drew (Below.refl _ _)
      replace B0 := Lib.hid ((cdr.block w.heap.size (Array.getElem?_eq_some_iff.1 B0.out).1).trans B0.out)
      replace d := Lib.hid (d.out.trans (cdr.mono d.out.size))
      clear cdr
      have Z_dr := Lib.hid (show wr.heap.size ≤ wr.drew.heap.size from Nat.le_refl _)
      generalize wr.drew = Wd at *
      refine take_runs (i := 0) (v := ?_) (by simp only [List.getElem?_toArray, List.getElem?_cons_succ, List.getElem?_cons_zero]; rfl) (by kernel_rfl) (by kernel_rfl) (by kernel_rfl) rfl (by exact fun _ _ _ h => h) (by rfl) ?_ (by assumption) ?_
      rotate_left
      · intro w hSw; (try dsimp only at hSw); go_simp; try (with_reducible rfl)
      try simp only [Act.put, List.setIfInBounds_toArray, List.set_cons_zero, List.set_cons_succ]
      refine take_runs (i := 1) (v := ?_) (by simp only [List.getElem?_toArray, List.getElem?_cons_succ, List.getElem?_cons_zero]; rfl) (by kernel_rfl) (by kernel_rfl) (by kernel_rfl) rfl (by exact fun _ _ _ h => h) (by rfl) ?_ (by assumption) ?_
      rotate_left
      · intro w hSw; (try dsimp only at hSw); go_simp; try (with_reducible rfl)
      try simp only [Act.put, List.setIfInBounds_toArray, List.set_cons_zero, List.set_cons_succ]
      refine take_runs (i := 2) (v := ?_) (by simp only [List.getElem?_toArray, List.getElem?_cons_succ, List.getElem?_cons_zero]; rfl) (by kernel_rfl) (by kernel_rfl) (by kernel_rfl) rfl (by exact fun _ _ _ h => h) (by rfl) ?_ (by assumption) ?_
      rotate_left
      · intro w hSw; (try dsimp only at hSw); go_simp; try (with_reducible rfl)
      try simp only [Act.put, List.setIfInBounds_toArray, List.set_cons_zero, List.set_cons_succ]
      refine take_runs (i := 3) (v := ?_) (by simp only [List.getElem?_toArray, List.getElem?_cons_succ, List.getElem?_cons_zero]; rfl) (by kernel_rfl) (by kernel_rfl) (by kernel_rfl) rfl (by exact fun _ _ _ h => h) (by rfl) ?_ (by assumption) ?_
      rotate_left
      · intro w hSw; (try dsimp only at hSw); go_simp; try (with_reducible rfl)
      try simp only [Act.put, List.setIfInBounds_toArray, List.set_cons_zero, List.set_cons_succ]
      refine take_runs (i := 4) (v := ?_) (by simp only [List.getElem?_toArray, List.getElem?_cons_succ, List.getElem?_cons_zero]; rfl) (by kernel_rfl) (by kernel_rfl) (by kernel_rfl) rfl (by exact fun _ _ _ h => h) (by rfl) ?_ (by assumption) ?_
      rotate_left
      · intro w hSw; (try dsimp only at hSw); go_simp; try (with_reducible rfl)
      try simp only [Act.put, List.setIfInBounds_toArray, List.set_cons_zero, List.set_cons_succ]
      refine take_runs (i := 5) (v := ?_) (by simp only [List.getElem?_toArray, List.getElem?_cons_succ, List.getElem?_cons_zero]; rfl) (by kernel_rfl) (by kernel_rfl) (by kernel_rfl) rfl (by exact fun _ _ _ h => h) (by rfl) ?_ (by assumption) ?_
      rotate_left
      · intro w hSw; (try dsimp only at hSw); go_simp; try (with_reducible rfl)
      try simp only [Act.put, List.setIfInBounds_toArray, List.set_cons_zero, List.set_cons_succ]
      refine take_runs (i := 6) (v := ?_) (by simp only [List.getElem?_toArray, List.getElem?_cons_succ, List.getElem?_cons_zero]; rfl) (by kernel_rfl) (by kernel_rfl) (by kernel_rfl) rfl (by exact fun _ _ _ h => h) (by rfl) ?_ (by assumption) ?_
      rotate_left
      · intro w hSw; (try dsimp only at hSw); go_simp; try (with_reducible rfl)
      try simp only [Act.put, List.setIfInBounds_toArray, List.set_cons_zero, List.set_cons_succ]
      refine take_runs (i := 10) (v := ?_) (by simp only [List.getElem?_toArray, List.getElem?_cons_succ, List.getElem?_cons_zero]; rfl) (by kernel_rfl) (by kernel_rfl) (by kernel_rfl) rfl (by exact fun _ _ _ h => h) (by rfl) ?_ (by assumption) ?_
      rotate_left
      · intro w hSw; (try dsimp only at hSw); go_simp; try (with_reducible rfl)
      try simp only [Act.put, List.setIfInBounds_toArray, List.set_cons_zero, List.set_cons_succ]
      refine take_runs (i := 11) (v := ?_) (by simp only [List.getElem?_toArray, List.getElem?_cons_succ, List.getElem?_cons_zero]; rfl) (by kernel_rfl) (by kernel_rfl) (by kernel_rfl) rfl (by exact fun _ _ _ h => h) (by rfl) ?_ (by assumption) ?_
      rotate_left
      · intro w hSw; (try dsimp only at hSw); go_simp; try (with_reducible rfl)
      try simp only [Act.put, List.setIfInBounds_toArray, List.set_cons_zero, List.set_cons_succ]
      refine take_runs (i := 12) (v := ?_) (by simp only [List.getElem?_toArray, List.getElem?_cons_succ, List.getElem?_cons_zero]; rfl) (by kernel_rfl) (by kernel_rfl) (by kernel_rfl) rfl (by exact fun _ _ _ h => h) (by rfl) ?_ (by assumption) ?_
      rotate_left
      · intro w hSw; (try dsimp only at hSw); go_simp; try (with_reducible rfl)
      try simp only [Act.put, List.setIfInBounds_toArray, List.set_cons_zero, List.set_cons_succ]
      refine take_runs (i := 13) (v := ?_) (by simp only [List.getElem?_toArray, List.getElem?_cons_succ, List.getElem?_cons_zero]; rfl) (by kernel_rfl) (by kernel_rfl) (by kernel_rfl) rfl (by exact fun _ _ _ h => h) (by rfl) ?_ (by assumption) ?_
      rotate_left
      · intro w hSw; (try dsimp only at hSw); go_simp; try (with_reducible rfl)
      try simp only [Act.put, List.setIfInBounds_toArray, List.set_cons_zero, List.set_cons_succ]
      refine take_runs (i := 14) (v := ?_) (by simp only [List.getElem?_toArray, List.getElem?_cons_succ, List.getElem?_cons_zero]; rfl) (by kernel_rfl) (by kernel_rfl) (by kernel_rfl) rfl (by exact fun _ _ _ h => h) (by rfl) ?_ (by assumption) ?_
      rotate_left
      · intro w hSw; (try dsimp only at hSw); go_simp; try (with_reducible rfl)
      try simp only [Act.put, List.setIfInBounds_toArray, List.set_cons_zero, List.set_cons_succ]
      refine wpAnyH_ready (rs := [7]) (by kernel_rfl) (by simp) ?_
      refine (AllReadyH.cons (o := _) (by simp only [List.getElem?_toArray, List.getElem?_cons_succ, List.getElem?_cons_zero]; rfl) (fun K hK => ?_) AllReadyH.nil)
      go_simp
      refine (HR3.out Wd).mono ?_
      rintro e v3 ⟨rfl, cv3⟩
      replace B0 := Lib.hid ((cv3.block w.heap.size (Array.getElem?_eq_some_iff.1 B0.out).1).trans B0.out)
      replace d := Lib.hid (d.out.trans (cv3.mono d.out.size))
      have Z_v3 := Lib.hid (show Wd.heap.size ≤ v3.heap.size from cv3.size)
      clear cv3
      have p_B0_0 := (cell_of_row v3 _ 0 _ _ _ B0.out).trans (show _ = some (Value.int .i64 sg) from rfl)
      have p_B0_1 := (cell_of_row v3 _ 1 _ _ _ B0.out).trans (show _ = some (Value.int .i64 ba) from rfl)
      have p_B0_2 := (cell_of_row v3 _ 2 _ _ _ B0.out).trans (show _ = some (Value.slice (some ⟨bu, offu, none⟩) x2.length c2) from rfl)
      have p_B0_3 := (cell_of_row v3 _ 3 _ _ _ B0.out).trans (show _ = some (Value.slice p3 x3.length c3) from rfl)
      have p_B0_4 := (cell_of_row v3 _ 4 _ _ _ B0.out).trans (show _ = some (Value.slice (some ⟨br, offr, none⟩) x4.length c4) from rfl)
      have p_F2 := (d.out.cell (p := ⟨bu, offu + k, none⟩) LF2.out).trans F2.out
      have p_F4 := (d.out.cell (p := ⟨br, offr + k, none⟩) LF4.out).trans F4.out
      refine hK.out _ _ ⟨p_B0_0, p_B0_1, p_B0_2, p_B0_3, p_B0_4, p_F2, p_F4⟩ (fun hHeld => ?_)
      clear p_B0_0 p_B0_1 p_B0_2 p_B0_3 p_B0_4 p_F2 p_F4
      clear hK K
      try simp only [Act.put, List.setIfInBounds_toArray, List.set_cons_zero, List.set_cons_succ]
      refine take_runs (i := 8) (v := ?_) (by simp only [List.getElem?_toArray, List.getElem?_cons_succ, List.getElem?_cons_zero]; rfl) (by kernel_rfl) (by kernel_rfl) (by kernel_rfl) rfl (by exact fun _ _ _ h => h) (by rfl) ?_ (by assumption) ?_
      rotate_left
      · intro w hSw; (try dsimp only at hSw); go_simp; try (with_reducible rfl)
      try simp only [Act.put, List.setIfInBounds_toArray, List.set_cons_zero, List.set_cons_succ]
      refine take_runs (i := 9) (v := ?_) (by simp only [List.getElem?_toArray, List.getElem?_cons_succ, List.getElem?_cons_zero]; rfl) (by kernel_rfl) (by kernel_rfl) (by kernel_rfl) rfl (by exact fun _ _ _ h => h) (by rfl) ?_ (by assumption) ?_
      rotate_left
      · intro w hSw; (try dsimp only at hSw); go_simp; try (with_reducible rfl)
      try simp only [Act.put, List.setIfInBounds_toArray, List.set_cons_zero, List.set_cons_succ]
      refine wpAnyH_ready (rs := [15]) (by kernel_rfl) (by simp) ?_
      refine (AllReadyH.cons (o := _) (by simp only [List.getElem?_toArray, List.getElem?_cons_succ, List.getElem?_cons_zero]; rfl) (fun K hK => ?_) AllReadyH.nil)
      go_simp
      refine (HR4.out v3).mono ?_
      rintro e v4 ⟨rfl, cv4⟩
      replace B0 := Lib.hid ((cv4.block w.heap.size (Array.getElem?_eq_some_iff.1 B0.out).1).trans B0.out)
      replace d := Lib.hid (d.out.trans (cv4.mono d.out.size))
      have Z_v4 := Lib.hid (show v3.heap.size ≤ v4.heap.size from cv4.size)
      clear cv4
      have p_B0_0 := (cell_of_row v4 _ 0 _ _ _ B0.out).trans (show _ = some (Value.int .i64 sg) from rfl)
      have p_B0_1 := (cell_of_row v4 _ 1 _ _ _ B0.out).trans (show _ = some (Value.int .i64 ba) from rfl)
      have p_B0_2 := (cell_of_row v4 _ 2 _ _ _ B0.out).trans (show _ = some (Value.slice (some ⟨bu, offu, none⟩) x2.length c2) from rfl)
      have p_B0_3 := (cell_of_row v4 _ 3 _ _ _ B0.out).trans (show _ = some (Value.slice p3 x3.length c3) from rfl)
      have p_B0_4 := (cell_of_row v4 _ 4 _ _ _ B0.out).trans (show _ = some (Value.slice (some ⟨br, offr, none⟩) x4.length c4) from rfl)
      have p_F2 := (d.out.cell (p := ⟨bu, offu + k, none⟩) LF2.out).trans F2.out
      have p_F4 := (d.out.cell (p := ⟨br, offr + k, none⟩) LF4.out).trans F4.out
      refine hK.out _ _ ⟨p_B0_0, p_B0_1, p_B0_2, p_B0_3, p_B0_4, p_F2, p_F4⟩ (fun hHeld => ?_)
      clear p_B0_0 p_B0_1 p_B0_2 p_B0_3 p_B0_4 p_F2 p_F4
      clear hK K
      try simp only [Act.put, List.setIfInBounds_toArray, List.set_cons_zero, List.set_cons_succ]
      refine take_runs (i := 16) (v := ?_) (by simp only [List.getElem?_toArray, List.getElem?_cons_succ, List.getElem?_cons_zero]; rfl) (by kernel_rfl) (by kernel_rfl) (by kernel_rfl) rfl (by exact fun _ _ _ h => h) (by rfl) ?_ (by assumption) ?_
      rotate_left
      · intro w hSw; (try dsimp only at hSw); go_simp; try (with_reducible rfl)
      try simp only [Act.put, List.setIfInBounds_toArray, List.set_cons_zero, List.set_cons_succ]
      refine take_runs (i := 17) (v := ?_) (by simp only [List.getElem?_toArray, List.getElem?_cons_succ, List.getElem?_cons_zero]; rfl) (by kernel_rfl) (by kernel_rfl) (by kernel_rfl) rfl (by exact fun _ _ _ h => h) (by rfl) ?_ (by assumption) ?_
      rotate_left
      · intro w hSw; (try dsimp only at hSw); go_simp; try (with_reducible rfl)
      try simp only [Act.put, List.setIfInBounds_toArray, List.set_cons_zero, List.set_cons_succ]
      refine wpAnyH_done (by kernel_rfl) ?_ _
      clear hHeld
      clear e0 e1 d0 d1 d2 d3
      go_wp2
      go_roundw
      case rel => exact ⟨k + 1, z4, by omega, by go_num, rfl, HN, B0, d.out⟩
      case measure => simp [intOf]; omega
    · obtain rfl : k = x2.length := by omega
      have HT : Hid (s = fmtC (sg, ba, x2, x3, x4)) := Lib.hid (by rw [HF.out]; exact hs.out)
      clear hs
      have p_B0_0 := (cell_of_row wr _ 0 _ _ _ B0.out).trans (show _ = some (Value.int .i64 sg) from rfl)
      have p_B0_1 := (cell_of_row wr _ 1 _ _ _ B0.out).trans (show _ = some (Value.int .i64 ba) from rfl)
      have p_B0_2 := (cell_of_row wr _ 2 _ _ _ B0.out).trans (show _ = some (Value.slice p2 x2.length c2) from rfl)
      have p_B0_3 := (cell_of_row wr _ 3 _ _ _ B0.out).trans (show _ = some (Value.slice p3 x3.length c3) from rfl)
      have p_B0_4 := (cell_of_row wr _ 4 _ _ _ B0.out).trans (show _ = some (Value.slice p4 x4.length c4) from rfl)
      go_wp2
      clear p_B0_0 p_B0_1 p_B0_2 p_B0_3 p_B0_4
      go_ret
      exact ⟨ret_s HT.out, d.out⟩
end Go.Proofs.YtjeaimdnddelpaaDoor
namespace Go.Proofs.YtjeaimdnddelpaaDoor
open Go.RowKit
set_option linter.unusedVariables false
set_option linter.unusedSimpArgs false
end Go.Proofs.YtjeaimdnddelpaaDoor
namespace Go.Proofs.YtjeaimdnddelpaaDoor
open Go.RowKit
set_option linter.unusedVariables false
set_option linter.unusedSimpArgs false
end Go.Proofs.YtjeaimdnddelpaaDoor
namespace Go.Proofs.YtjeaimdnddelpaaDoor
open Go.RowKit
set_option linter.unusedVariables false
set_option linter.unusedSimpArgs false
end Go.Proofs.YtjeaimdnddelpaaDoor
namespace Go.Proofs.YtjeaimdnddelpaaDoor
open Go.RowKit
set_option linter.unusedVariables false
set_option linter.unusedSimpArgs false
end Go.Proofs.YtjeaimdnddelpaaDoor
namespace Go.Proofs.YtjeaimdnddelpaaDoor
open Go.RowKit
set_option linter.unusedVariables false
set_option linter.unusedSimpArgs false
end Go.Proofs.YtjeaimdnddelpaaDoor
namespace Go.Proofs.YtjeaimdnddelpaaDoor
open Go.RowKit
set_option linter.unusedVariables false
set_option linter.unusedSimpArgs false
end Go.Proofs.YtjeaimdnddelpaaDoor
namespace Go.Proofs.YtjeaimdnddelpaaDoor
open Go.RowKit
set_option linter.unusedVariables false
set_option linter.unusedSimpArgs false
end Go.Proofs.YtjeaimdnddelpaaDoor
namespace Go.Proofs.YtjeaimdnddelpaaDoor
open Go.RowKit
set_option linter.unusedVariables false
set_option linter.unusedSimpArgs false
end Go.Proofs.YtjeaimdnddelpaaDoor
namespace Go.Proofs.YtjeaimdnddelpaaDoor
open Go.RowKit
set_option linter.unusedVariables false
set_option linter.unusedSimpArgs false
theorem isTenant_yes (n : Int) (w : World) (h1 : 0 ≤ n) (h2 : n < 4) : Calls Tryd.prog 31 #[.int .i64 n] w fun e w' => e = .returned (.bool true) ∧ w' = w := by
  go_enter Tryd.func31, Tryd.ntmps31
  go_wp2
  go_ret
  exact ⟨rfl, rfl⟩
theorem isTenant_no (n : Int) (w : World) (h : ¬ (0 ≤ n ∧ n < 4)) : Calls Tryd.prog 31 #[.int .i64 n] w fun e w' => e = .returned (.bool false) ∧ w' = w := by
  by_cases h1 : 0 ≤ n
  · have h2 : ¬ n < 4 := fun g => h ⟨h1, g⟩
    clear h
    go_enter Tryd.func31, Tryd.ntmps31
    go_wp2
    go_ret
    exact ⟨rfl, rfl⟩
  · clear h
    go_enter Tryd.func31, Tryd.ntmps31
    go_wp2
    go_ret
    exact ⟨rfl, rfl⟩
end Go.Proofs.YtjeaimdnddelpaaDoor
namespace Go.Proofs.YtjeaimdnddelpaaDoor
set_option linter.unusedVariables false
/-- The mask of the first k numbers. -/
def maskTo (l : List Int) (k : Nat) : Nat := (l.take k).foldl (fun m x => m ||| 2 ^ x.toNat) 0
theorem maskTo_zero (l : List Int) : maskTo l 0 = 0 := by simp [maskTo]
theorem maskTo_step {l : List Int} {k : Nat} (hk : k < l.length) : maskTo l (k + 1) = maskTo l k ||| 2 ^ (l.getD k 0).toNat := by
  unfold maskTo
  have e : l.getD k 0 = l[k] := by simp [List.getD, hk]
  rw [e, List.take_succ_eq_append_getElem hk, List.foldl_append]
  rfl
theorem setTo_pred {l : List Int} {k : Nat} (h : SetTo l (k + 1)) : SetTo l k := ⟨fun i hi => h.1 i (by omega), fun i hi => h.2 i (by omega)⟩
theorem bit_maskTo {l : List Int} : ∀ {k : Nat}, k ≤ l.length → SetTo l k → ∀ i : Nat, (maskTo l k).testBit i = true ↔ ∃ j, j < k ∧ l.getD j 0 = (i : Int) := by
  intro k
  induction k with
  | zero => intro _ _ i; simp [maskTo_zero]
  | succ k ih =>
    intro hk hs i
    rw [maskTo_step (by omega), Nat.testBit_or, Bool.or_eq_true, ih (by omega) (setTo_pred hs), Nat.testBit_two_pow]
    have h0 := hs.1 k (by omega)
    constructor
    · rintro (⟨j, hj, e⟩ | h)
      · exact ⟨j, by omega, e⟩
      · have := of_decide_eq_true h
        exact ⟨k, by omega, by omega⟩
    · rintro ⟨j, hj, e⟩
      by_cases ej : j = k
      · subst ej; right; rw [decide_eq_true_eq]; omega
      · exact Or.inl ⟨j, by omega, e⟩
theorem maskTo_lt {l : List Int} {k : Nat} (hk : k ≤ l.length) (hs : SetTo l k) (x : Nat) (h : ∀ j, j < k → l.getD j 0 < (x : Int)) : maskTo l k < 2 ^ x := by
  refine Nat.lt_pow_two_of_testBit _ fun i hi => ?_
  rw [Bool.eq_false_iff]
  intro g
  obtain ⟨j, hj, e⟩ := (bit_maskTo hk hs i).1 g
  have := h j hj
  omega
theorem maskTo_lt24 {l : List Int} {k : Nat} (hk : k ≤ l.length) (hs : SetTo l k) : maskTo l k < 16777216 :=
  maskTo_lt hk hs 24 (fun j hj => by have := (hs.1 j hj).2; omega)
theorem maskTo_ge {l : List Int} {k : Nat} (hk : k ≤ l.length) (hs : SetTo l k) {x : Nat} {j : Nat} (hj : j < k) (h : (x : Int) ≤ l.getD j 0) : 2 ^ x ≤ maskTo l k := by
  have h0 := (hs.1 j hj).1
  have := (bit_maskTo hk hs (l.getD j 0).toNat).2 ⟨j, hj, by omega⟩
  exact Nat.le_trans (Nat.pow_le_pow_right (by omega) (by omega)) (Nat.ge_two_pow_of_testBit this)
theorem setTo_mono {l : List Int} {k : Nat} (h : SetTo l k) : ∀ {i j : Nat}, i < j → j < k → l.getD i 0 < l.getD j 0 := by
  intro i j hij
  obtain ⟨d, rfl⟩ : ∃ d, j = i + d + 1 := ⟨j - i - 1, by omega⟩
  clear hij
  induction d with
  | zero => intro hj; exact h.2 i hj
  | succ d ih => intro hj; exact Int.lt_trans (ih (by omega)) (h.2 (i + d + 1) hj)
/-- The bit test of maskOf: no bit from x on, just where x goes on the ascent. -/
theorem maskTo_next {l : List Int} {k : Nat} (hk : k < l.length) (hs : SetTo l k) {x : Nat} (hx : l.getD k 0 = (x : Int)) (hx23 : x ≤ 23) : maskTo l k / 2 ^ x = 0 ↔ SetTo l (k + 1) := by
  rw [Nat.div_eq_zero_iff]
  constructor
  · rintro (h | h)
    · exact absurd h (Nat.ne_of_gt (Nat.two_pow_pos x))
    · refine setTo_step hs (by omega) (by omega) fun h0 => ?_
      apply Int.not_le.1
      intro g
      rw [hx] at g
      have := maskTo_ge (Nat.le_of_lt hk) hs (j := k - 1) (by omega) g
      omega
  · intro h
    right
    refine maskTo_lt (Nat.le_of_lt hk) hs x fun j hj => ?_
    rw [← hx]
    exact setTo_mono h hj (by omega)
/-- The mask of a set, 0 of any other list. -/
def maskL (l : List Int) : Nat := if setB l = true then maskTo l l.length else 0
theorem maskL_yes {l : List Int} (h : SetL l) : maskL l = maskTo l l.length := by unfold maskL; rw [if_pos ((setB_iff l).2 h)]
theorem maskL_no {l : List Int} (h : setB l = false) : maskL l = 0 := by unfold maskL; rw [h]; rfl
end Go.Proofs.YtjeaimdnddelpaaDoor
