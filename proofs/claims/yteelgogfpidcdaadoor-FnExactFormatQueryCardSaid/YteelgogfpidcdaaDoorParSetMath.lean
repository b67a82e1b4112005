/-
  What the specification's ParseSet computes, as numbers; a []int grows beside what else the call owns.
-/
import Derived.Test.YteelgogfpidcdaaDoorCut
import Derived.Test.YteelgogfpidcdaaDoorParWalks
import Derived.Maps.AppendAt
namespace Go.Proofs.YteelgogfpidcdaaDoor
open Go.RowKit
set_option linter.unusedVariables false
/-- 'append(out, x..)', with what else stays: all blocks but out's own; and where the result lies. -/
theorem append_ints_at {w : World} {ops : Array Oper} {rest : List Oper} {o : Oper} {a : Act} {Q : Exit → Act → World → Prop} (hgd : o.guard = none) (s x : Operand)
    (ho : o.op = .call { callee := .builtin .append, args := #[s, x], argTypes := #[32, 32] })
    (B : Nat) (v : Value) (xs : List Int) (hs : a.eval s = v) (hown : OwnsN w B v xs) (hB : B ≤ w.heap.size)
    (C : Array Value) (ys : List Int) (m c : Nat) (hx : a.eval x = .slice (some ⟨w.heap.size, 0, none⟩) m c) (hC : C.toList = ys.map (Value.int .i64)) (hm : m = ys.length)
    (h63 : xs.length + ys.length ≤ 17592186044416)
    (h : ∀ v' w', OwnsN w' B v' (xs ++ ys) → Below B w w' → w.grownBy w' v.ownBlock → (v'.ownBlock = v.ownBlock ∨ ∃ k, v'.ownBlock = some k ∧ w.heap.size ≤ k) → wpList Tryd.prog ops Q rest (a.put o.dst v') w') : wpList Tryd.prog ops Q (o :: rest) a (w.alloc (.cells C 3)) := by
  obtain ⟨i0, hi, hz0, hz1, hz2⟩ := info_parts Tryd.infoI64
  subst hm
  refine wpList_append_own_at _ hgd s x 32 ho B 3 i0 (.int .i64 0) 1 8 Tryd.underlying32 hi hz0 hz1 hz2 rfl (by decide) v xs.length _ hs (hown.alloc _) ⟨w.heap.size, 0, none⟩ ys.length c (ys.map (Value.int .i64)) hx (by simp) ?_ (by intro u hu; simp at hu; obtain ⟨y, _, rfl⟩ := hu; rfl) (by unfold maxLen; omega) (by omega) (by simp; omega) ?_
  · intro j u hj
    have e : (⟨w.heap.size, 0, none⟩ : Addr).add j = ⟨w.heap.size, j, none⟩ := by unfold Addr.add; split <;> simp_all
    rw [e, cell_lit]
    rw [← hC] at hj
    simpa using hj
  · intro v' w' h1 h2 _ h4
    refine h v' w' ?_ ?_ ?_ ?_
    · unfold OwnsN
      simpa using h1
    · exact ((Below.refl B w).alloc hB _).grown h2 (by simp; omega) (fun k hk => (hown.lt k hk).1)
    · have hg := World.grownBy_alloc w (.cells C 3) v.ownBlock
      exact ⟨h2.os.trans hg.os, h2.tape.trans hg.tape, h2.output.trans hg.output, Nat.le_trans hg.size h2.size, fun k hk hne => (h2.block k (Nat.lt_of_lt_of_le hk hg.size) hne).trans (hg.block k hk hne)⟩
    · rcases h4 with h4 | h4
      · exact Or.inl h4
      · exact Or.inr ⟨_, h4, by simp⟩
/-- Two slices of the call's own lie in blocks of their own. -/
def Apart (v u : Value) : Prop := u.ownBlock = none ∨ v.ownBlock ≠ u.ownBlock
theorem ownsS_kept {w w' : World} {B : Nat} {v u : Value} {ts : List ByteArray} (h : OwnsS w B u ts) (hg : w.grownBy w' v.ownBlock) (hp : Apart v u) : OwnsS w' B u ts := by
  refine h.kept hg ?_
  rcases hp with e | e
  · exact Or.inl e
  · exact Or.inr (fun g => e g.symm)
theorem apart_step {w : World} {B : Nat} {v v' u : Value} {ts : List ByteArray} (h : OwnsS w B u ts) (hp : Apart v u) (hat : v'.ownBlock = v.ownBlock ∨ ∃ k, v'.ownBlock = some k ∧ w.heap.size ≤ k) : Apart v' u := by
  rcases hp with e | e
  · exact Or.inl e
  · rcases hat with g | ⟨k, g, hk⟩
    · exact Or.inr (by rw [g]; exact e)
    · cases hu : u.ownBlock with
      | none => exact Or.inl hu
      | some j =>
        refine Or.inr ?_
        rw [g, hu]
        have := (h.lt j hu).2
        intro e2
        simp at e2
        omega
def numL (q : List UInt8) : Int := if (parI q).2 then (parI q).1 else -100000
def partTo (ps : List (List UInt8)) : Int := if ps.length = 2 then numL (ps.getD 1 []) else numL (ps.getD 0 [])
def partOk (ps : List (List UInt8)) : Bool := decide (ps.length ≤ 2 ∧ (0 ≤ numL (ps.getD 0 []) ∧ numL (ps.getD 0 []) ≤ 23) ∧ (numL (ps.getD 0 []) ≤ partTo ps ∧ partTo ps ≤ 23))
def partNums (ps : List (List UInt8)) : List Int := upN (numL (ps.getD 0 [])) (partTo ps - numL (ps.getD 0 []) + 1).toNat
def parGo : List Int → List (List UInt8) → Option (List Int)
  | out, [] => some out
  | out, q :: r => if partOk (cutL 45 q) then parGo (out ++ partNums (cutL 45 q)) r else none
def parSet (l : List UInt8) : List Int × Bool :=
  if l = [110, 111, 110, 101] then ([], true)
  else match parGo [] (cutL 32 l) with
    | none => ([], false)
    | some out => if fmtSet out = l then (out, true) else ([], false)
theorem parSet_none {l : List UInt8} (h : l = [110, 111, 110, 101]) : parSet l = ([], true) := by unfold parSet; rw [if_pos h]
theorem parSet_bad {l : List UInt8} (h : ¬ l = [110, 111, 110, 101]) (hg : parGo [] (cutL 32 l) = none) : parSet l = ([], false) := by unfold parSet; rw [if_neg h, hg]
theorem parSet_yes {l : List UInt8} {out : List Int} (h : ¬ l = [110, 111, 110, 101]) (hg : parGo [] (cutL 32 l) = some out) (hf : fmtSet out = l) : parSet l = (out, true) := by unfold parSet; rw [if_neg h, hg]; exact if_pos hf
theorem parSet_no {l : List UInt8} {out : List Int} (h : ¬ l = [110, 111, 110, 101]) (hg : parGo [] (cutL 32 l) = some out) (hf : ¬ fmtSet out = l) : parSet l = ([], false) := by unfold parSet; rw [if_neg h, hg]; exact if_neg hf
theorem parGo_hit {out : List Int} {P : List (List UInt8)} {k : Nat} (hk : k < P.length) (h : partOk (cutL 45 (P.getD k [])) = true) : parGo out (P.drop k) = parGo (out ++ partNums (cutL 45 (P.getD k []))) (P.drop (k + 1)) := by
  rw [List.drop_eq_getElem_cons hk]
  have e : P.getD k [] = P[k] := by simp [List.getD, hk]
  rw [e] at h ⊢
  show (if partOk (cutL 45 P[k]) then _ else _) = _
  rw [if_pos h]
theorem parGo_miss {out : List Int} {P : List (List UInt8)} {k : Nat} (hk : k < P.length) (h : partOk (cutL 45 (P.getD k [])) = false) : parGo out (P.drop k) = none := by
  rw [List.drop_eq_getElem_cons hk]
  have e : P.getD k [] = P[k] := by simp [List.getD, hk]
  rw [e] at h
  show (if partOk (cutL 45 P[k]) then _ else _) = _
  rw [h]; rfl
theorem cutGo_piece (b : UInt8) : ∀ (l p : List UInt8), ∀ q ∈ cutGo b p l, q.length ≤ p.length + l.length := by
  intro l
  induction l with
  | nil => intro p q hq; simp [cutGo] at hq; subst hq; simp
  | cons c r ih =>
    intro p q hq
    unfold cutGo at hq
    split at hq
    · rcases List.mem_cons.1 hq with e | e
      · subst e; simp
      · have := ih [] q e; simp at this ⊢; omega
    · have := ih (p ++ [c]) q hq; simp at this ⊢; omega
theorem cut_piece (b : UInt8) (l : List UInt8) (k : Nat) : ((cutL b l).getD k []).length ≤ l.length := by
  by_cases hk : k < (cutL b l).length
  · have e : (cutL b l).getD k [] = (cutL b l)[k] := by simp [List.getD, hk]
    have := cutGo_piece b l [] _ (List.getElem_mem hk)
    rw [e]
    simpa using this
  · have e : (cutL b l).getD k [] = [] := by rw [List.getD, List.getElem?_eq_none (Nat.le_of_not_lt hk)]; rfl
    rw [e]; simp
theorem cut_len (b : UInt8) (l : List UInt8) : (cutL b l).length ≤ l.length + 1 := cutGo_len b l []
theorem cutGo_pos (b : UInt8) : ∀ (l p : List UInt8), 0 < (cutGo b p l).length := by
  intro l
  induction l with
  | nil => intro p; simp [cutGo]
  | cons c r ih => intro p; unfold cutGo; split; · simp
                   · exact ih _
theorem cut_pos (b : UInt8) (l : List UInt8) : 0 < (cutL b l).length := cutGo_pos b l []
theorem ret_n {a b : Int} (h : a = b) : Ending.returned (.int .i64 a) = .returned (.int .i64 b) := by rw [h]
set_option maxHeartbeats 1000000 in
theorem specNum (q : List UInt8) (w : World) (hs : q.length ≤ 1048576) : Calls Tryd.prog 64 #[.string (strB q)] w fun e w' => e = .returned (.int .i64 (numL q)) ∧ Below w.heap.size w w' := by
  have HP := Lib.hid (fun w => specPar (strB q) w (by rw [strB_size]; exact hs))
  go_enter Tryd.func64, Tryd.ntmps64
  go_wp2_with fail
  refine (HP.out _).mono ?_
  rintro e w1 ⟨rfl, b1⟩
  have e1 : (strB q).data.toList = q := rfl
  rw [e1]
  cases h2 : (parI q).2 with
  | true =>
    have HN : Hid (numL q = (parI q).1) := Lib.hid (by unfold numL; rw [h2]; rfl)
    clear h2
    generalize (parI q).1 = n at HN ⊢
    go_wp2
    go_ret
    exact ⟨ret_n HN.out.symm, b1⟩
  | false =>
    have HN : Hid (numL q = -100000) := Lib.hid (by unfold numL; rw [h2]; rfl)
    clear h2
    generalize (parI q).1 = n
    go_wp2
    go_ret
    exact ⟨ret_n HN.out.symm, b1⟩
end Go.Proofs.YteelgogfpidcdaaDoor
