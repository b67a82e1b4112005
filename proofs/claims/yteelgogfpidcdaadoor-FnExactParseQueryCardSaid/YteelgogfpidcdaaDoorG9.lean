/-
  Texts of the proof, merged: QueryParS, AppStrs, QueryParP.
-/
import Derived.Test.YteelgogfpidcdaaDoorG8
import Derived.Deep.CutRange
import Derived.Deep.Upon
namespace Go.Proofs.YteelgogfpidcdaaDoor
open Go.RowKit
set_option linter.unusedVariables false
set_option linter.unusedSimpArgs false
theorem conds_one {w : World} {h : Nat} {f lo hi : Int} (hc : w.cell? ⟨h, 0, none⟩ = some (.int .i64 f) ∧ w.cell? ⟨h, 1, none⟩ = some (.int .i64 lo) ∧ w.cell? ⟨h, 2, none⟩ = some (.int .i64 hi)) (hl : h < w.heap.size) : CondsR w (.slice (some ⟨h, 0, none⟩) 1 1) [(f, lo, hi)] :=
  Or.inr ⟨h, 0, 1, rfl, by simp, hl, fun j hj => by
    have : j = 0 := by simp at hj; omega
    subst this
    simpa using hc⟩
/-- What was there, but the block R, lies as it lay; blocks from C on may be written. -/
structure Rowed (R C : Nat) (W W' : World) : Prop where
  os : W'.os = W.os
  tape : W'.tape = W.tape
  output : W'.output = W.output
  size : W.heap.size ≤ W'.heap.size
  block : ∀ k, k < C → k ≠ R → W'.heap[k]? = W.heap[k]?
theorem Rowed.refl (R C : Nat) (W : World) : Rowed R C W W := ⟨rfl, rfl, rfl, Nat.le_refl _, fun _ _ _ => rfl⟩
theorem Rowed.below {R C D : Nat} {a b c : World} (h : Rowed R C a b) (k : Below D b c) (hD : C ≤ D) : Rowed R C a c := ⟨k.os.trans h.os, k.tape.trans h.tape, k.output.trans h.output, Nat.le_trans h.size k.size, fun i hi hn => (k.block i (by omega)).trans (h.block i hi hn)⟩
theorem Rowed.set {R C : Nat} {a b : World} (h : Rowed R C a b) (j : Nat) (v : Value) : Rowed R C a (b.setCell ⟨R, j, none⟩ v) := ⟨h.os, h.tape, h.output, by simpa [World.setCell] using h.size, fun i hi hn => (Below.heap_setCell b _ v i (by simpa using hn)).trans (h.block i hi hn)⟩
theorem Rowed.all {R C D : Nat} {a b c : World} (h : Rowed R C b c) (k : Below D a b) (hD : D ≤ R) (hC : D ≤ C) : Below D a c := ⟨h.os.trans k.os, h.tape.trans k.tape, h.output.trans k.output, Nat.le_trans k.size h.size, fun i hi => (h.block i (by omega) (by omega)).trans (k.block i hi)⟩
def ParAnsQ (w : World) (p : QD × Bool) (e : Ending) (w' : World) : Prop :=
  ∃ cv ov, e = .returned (.tuple #[qV p.1.1 p.1.2.1 cv ov, .bool p.2]) ∧ OwnsC w' w.heap.size cv p.1.2.2.1 ∧ OwnsN w' w.heap.size ov p.1.2.2.2 ∧ (∀ b, cv.ownBlock = some b → ov.ownBlock ≠ some b) ∧ Below w.heap.size w w'
theorem parAnsQ_no {w w' : World} {p : QD × Bool} (h : p = (q0D, false)) (b : Below w.heap.size w w') : ParAnsQ w p (.returned (.tuple #[qV 0 0 (.slice none 0 0) (.slice none 0 0), .bool false])) w' :=
  ⟨.slice none 0 0, .slice none 0 0, by rw [h]; rfl, by rw [h]; exact ownsC_nil _ _, by rw [h]; exact ownsN_nil _ _, fun b hb => by simp [Value.ownBlock] at hb, b⟩
theorem parAnsQ_yes {w w' : World} {p : QD × Bool} {id tn : Int} {cs : List CondD} {os : List Int} {cv ov : Value} (h : p = ((id, tn, cs, os), true)) (o : OwnsC w' w.heap.size cv cs) (n : OwnsN w' w.heap.size ov os) (d : ∀ b, cv.ownBlock = some b → ov.ownBlock ≠ some b) (b : Below w.heap.size w w') :
    ParAnsQ w p (.returned (.tuple #[qV id tn cv ov, .bool true])) w' := ⟨cv, ov, by rw [h], by rw [h]; exact o, by rw [h]; exact n, d, b⟩
set_option maxHeartbeats 4000000 in
set_option maxRecDepth 100000 in
theorem specQuery_short (l : List UInt8) (w : World) (hl : l.length ≤ 1048576) (h4 : (cutL 32 l).length < 4) :
    Calls Tryd.prog 25 #[.string (strB l)] w (ParAnsQ w (parQ l)) := by
  have HA := Lib.hid (parQ_no (Or.inl h4))
  have i4 : ((cutL 32 l).length : Int) < 4 := by omega
  have d4 : decide (((cutL 32 l).length : Int) < 4) = true := decide_eq_true i4
  have HC := Lib.hid (fun w => specCut (strB l) 32 32 w rfl (by rw [strB_size]; exact hl))
  have HP0 := Lib.hid (cut_pos 32 l)
  go_enter Tryd.func25, Tryd.ntmps25
  go_wp2_with fail
  have hb0 : Below w.heap.size w (w.alloc (.cells #[.int .i64 0, .int .i64 0, .slice none 0 0, .slice none 0 0] 46)) := (Below.refl _ w).alloc (Nat.le_refl _) _
  have g0 := heap_alloc_new w (.cells #[.int .i64 0, .int .i64 0, .slice none 0 0, .slice none 0 0] 46)
  have hlt : w.heap.size < (w.alloc (.cells #[.int .i64 0, .int .i64 0, .slice none 0 0, .slice none 0 0] 46)).heap.size := by simp
  generalize w.alloc (.cells #[.int .i64 0, .int .i64 0, .slice none 0 0, .slice none 0 0] 46) = W at *
  refine (HC.out _).mono ?_
  rintro e w1 ⟨vp, rfl, op, b1⟩
  have c1 := hb0.trans (b1.mono hb0.size)
  have g1 := (b1.block w.heap.size hlt).trans g0
  have l1 := Nat.lt_of_lt_of_le hlt b1.size
  clear hb0 g0 hlt b1
  have ep : (strB l).data.toList = l := rfl
  rw [ep] at op
  clear ep
  obtain ⟨g, gcap, rfl⟩ := strs_head op HP0.out
  have q0 := (cell_of_row w1 _ 0 _ _ _ g1).trans (show _ = some (Value.int .i64 0) from rfl)
  have q1 := (cell_of_row w1 _ 1 _ _ _ g1).trans (show _ = some (Value.int .i64 0) from rfl)
  have q2 := (cell_of_row w1 _ 2 _ _ _ g1).trans (show _ = some (Value.slice none 0 0) from rfl)
  have q3 := (cell_of_row w1 _ 3 _ _ _ g1).trans (show _ = some (Value.slice none 0 0) from rfl)
  have f0 := frozen_of_row w1 _ 0 _ _ g1
  have f1 := frozen_of_row w1 _ 1 _ _ g1
  have f2 := frozen_of_row w1 _ 2 _ _ g1
  have f3 := frozen_of_row w1 _ 3 _ _ g1
  have HG := Lib.hid g1
  have HB := Lib.hid c1
  clear g1 c1 op
  go_wp2
  have r1 := heap_setCell_same w1 w.heap.size 0 _ _ (.int .i64 0) HG.out
  have r2 := heap_setCell_same _ w.heap.size 1 _ _ (.int .i64 0) r1
  have r3 := heap_setCell_same _ w.heap.size 2 _ _ (.slice none 0 0) r2
  have r4 := heap_setCell_same _ w.heap.size 3 _ _ (.slice none 0 0) r3
  have B4 := ((((HB.out.setCell (p := ⟨w.heap.size, 0, none⟩) (Nat.le_refl _) (.int .i64 0)).setCell (p := ⟨w.heap.size, 1, none⟩) (Nat.le_refl _) (.int .i64 0)).setCell (p := ⟨w.heap.size, 2, none⟩) (Nat.le_refl _) (.slice none 0 0)).setCell (p := ⟨w.heap.size, 3, none⟩) (Nat.le_refl _) (.slice none 0 0))
  have e0 := cell_of_row _ _ 0 _ _ _ r4
  have e1 := cell_of_row _ _ 1 _ _ _ r4
  have e2 := cell_of_row _ _ 2 _ _ _ r4
  have e3 := cell_of_row _ _ 3 _ _ _ r4
  simp at e0 e1 e2 e3
  refine bodyPost_ret (v := .tuple #[qV 0 0 (.slice none 0 0) (.slice none 0 0), .bool false]) ?_ rfl ?_
  · simp [results, Tryd.f25, go_sem, e0, e1, e2, e3, qV]
  · exact parAnsQ_no HA.out B4
end Go.Proofs.YteelgogfpidcdaaDoor
namespace Go.Proofs.YteelgogfpidcdaaDoor
open Go.RowKit
set_option linter.unusedVariables false
theorem ownsS_cap {w : World} {B : Nat} {v : Value} {xs : List ByteArray} (h : OwnsS w B v xs) : ∃ a cap, v = .slice a xs.length cap ∧ xs.length ≤ cap := by
  rcases h.2 with ⟨rfl, h0⟩ | ⟨g, cap, cur, rfl, hb, hg, hn, _⟩
  · exact ⟨none, 0, by rw [h0], by rw [h0]; exact Nat.le_refl _⟩
  · exact ⟨_, cap, rfl, hn⟩
theorem run_append_strs {w : World} {B : Nat} {v u : Value} {xs ys : List ByteArray} (ty : TypeId) (hown : OwnsS w B v xs) (hu : Strs w u ys) (hB : B ≤ w.heap.size) (h63 : xs.length + ys.length ≤ 8796093022208) :
    ∃ v' w', (Builtin.append_ #[65, 65] ty #[v, u]).run Tryd.prog w = .ok v' w' ∧ OwnsS w' B v' (xs ++ ys) ∧ Below B w w' ∧ w.grownBy w' v.ownBlock := by
  obtain ⟨i0, hi, hz0, hz1, hz2⟩ := info_parts Tryd.infoStr
  rcases hu with ⟨rfl, a', cap', rfl⟩ | ⟨b, off, cap', rfl, hcap, hbl, hc⟩
  · obtain ⟨a, cap, rfl, hle⟩ := ownsS_cap hown
    have hs : Src Tryd.prog i0.size 65 (.slice a' 0 cap') 0 [] w := by
      cases a' with
      | none => exact Src.ofNil w Tryd.underlying65 cap'
      | some ad => exact Src.ofSlice w Tryd.underlying65 ad 0 cap' [] (by simp) (by simp) (by simp)
    exact ⟨_, _, run_append_nothing w 65 65 ty 9 i0 Tryd.underlying65 hi a xs.length cap hle _ hs, by simpa using hown, Below.refl B w, ⟨rfl, rfl, rfl, Nat.le_refl _, fun _ _ _ => rfl⟩⟩
  · obtain ⟨v', w', hr, h2, h3, h4⟩ := run_append_own (P := Tryd.prog) w B 65 ty 9 i0 (.string ⟨#[]⟩) 1 16 Tryd.underlying65 hi hz0 hz1 hz2 rfl (by decide) v xs.length _ hown ⟨b, off, none⟩ ys.length cap' (ys.map Value.string) (by simp) (by
        intro j q hj
        rw [Go.WideShapes.add_plain]
        rw [List.getElem?_map] at hj
        by_cases hlt : j < ys.length
        · rw [hc j hlt]
          rw [List.getElem?_eq_getElem hlt] at hj
          simpa [List.getD, hlt] using hj
        · rw [List.getElem?_eq_none (by omega)] at hj
          simp at hj) (by intro q hq; simp at hq; obtain ⟨y, _, rfl⟩ := hq; rfl) (by unfold maxLen; omega) (by omega) hB
    refine ⟨v', w', hr, ?_, ?_, h3⟩
    · unfold OwnsS
      simpa using h2
    · exact (Below.refl B w).grown h3 hB (fun k hk => (hown.lt k hk).1)
/-- As a step of a region taken by hand. -/
theorem step_append_strs {w : World} {ops : Array Oper} {o : Oper} {a : Act} {K : Act → World → Prop} {Q : Exit → Act → World → Prop} {E : Prop} (hwa : Region.wanted o (yielded ops a.tmps) = true) (s x : Operand)
    (ho : o.op = .call { callee := .builtin .append, args := #[s, x], argTypes := #[65, 65] })
    (B : Nat) (v u : Value) (xs ys : List ByteArray) (hs : a.eval s = v) (hx : a.eval x = u) (hown : OwnsS w B v xs) (hu : Strs w u ys) (hB : B ≤ w.heap.size) (h63 : xs.length + ys.length ≤ 8796093022208)
    (h : ∀ v' w', OwnsS w' B v' (xs ++ ys) → Below B w w' → w.grownBy w' v.ownBlock → K (a.put o.dst v') w') : if Region.wanted o (yielded ops a.tmps) = true then Oper.wp Tryd.prog o a w K Q else E := by
  rw [if_pos hwa]
  obtain ⟨v', w', hr, h2, h3, h4⟩ := run_append_strs o.type hown hu hB h63
  unfold Oper.wp execOp
  simp only [ho, resolve, invoke, builtin, Sem.run_bind, Sem.run_pure, Result.andThen_ok, List.map_toArray, List.map_cons, List.map_nil, hs, hx, hr]
  exact h v' w' h2 h3 h4
/-- As a step of a region without draws. -/
theorem wpl_append_strs {w : World} {ops : Array Oper} {rest : List Oper} {o : Oper} {a : Act} {Q : Exit → Act → World → Prop} (hgd : o.guard = none) (s x : Operand)
    (ho : o.op = .call { callee := .builtin .append, args := #[s, x], argTypes := #[65, 65] })
    (B : Nat) (v u : Value) (xs ys : List ByteArray) (hs : a.eval s = v) (hx : a.eval x = u) (hown : OwnsS w B v xs) (hu : Strs w u ys) (hB : B ≤ w.heap.size) (h63 : xs.length + ys.length ≤ 8796093022208)
    (h : ∀ v' w', OwnsS w' B v' (xs ++ ys) → Below B w w' → w.grownBy w' v.ownBlock → wpList Tryd.prog ops Q rest (a.put o.dst v') w') : wpList Tryd.prog ops Q (o :: rest) a w := by
  refine wpList_plain hgd fun K hK => ?_
  obtain ⟨v', w', hr, h2, h3, h4⟩ := run_append_strs o.type hown hu hB h63
  unfold Oper.wp
  simp [execOp, ho, resolve, invoke, builtin, hs, hx, hr, Result.andThen]
  exact hK _ _ (h v' w' h2 h3 h4)
theorem strs_two {w : World} {h : Nat} {x y : ByteArray} (h0 : w.cell? ⟨h, 0, none⟩ = some (.string x)) (h1 : w.cell? ⟨h, 1, none⟩ = some (.string y)) (hl : h < w.heap.size) : Strs w (.slice (some ⟨h, 0, none⟩) 2 2) [x, y] :=
  Or.inr ⟨h, 0, 2, rfl, by simp, hl, fun j hj => by
    have : j = 0 ∨ j = 1 := by simp at hj; omega
    rcases this with rfl | rfl
    · simpa using h0
    · simpa using h1⟩
end Go.Proofs.YteelgogfpidcdaaDoor
namespace Go.Proofs.YteelgogfpidcdaaDoor
open Go.RowKit
set_option linter.unusedVariables false
set_option linter.unusedSimpArgs false
/-- The library's bound on short texts is some number. -/
def TabM (w : World) : Prop := ∃ m, w.cell? ⟨1, 0, none⟩ = some (.int .i64 m)
theorem TabM.on {w w' : World} (h : TabM w) (hb : Below w.heap.size w w') : TabM w' := by
  obtain ⟨m, hm⟩ := h
  exact ⟨m, (hb.cell (p := ⟨_, 0, none⟩) (World.block_lt_of_cell? w _ hm)).trans hm⟩
theorem parPI (q : List UInt8) (w : World) (hq : q.length ≤ 1048576) (hT : Tab w) : Calls Tryd.prog 111 #[.string (strB q)] w fun e w' => e = .returned (.tuple #[.int .i64 (parI q).1, .bool (parI q).2]) ∧ Below w.heap.size w w' := implPar (strB q) w (by rw [strB_size]; exact hq) hT
theorem ret_2 {a b : Int} {c d : Bool} (h : a = b) (g : c = d) : Ending.returned (.tuple #[.int .i64 a, .bool c]) = .returned (.tuple #[.int .i64 b, .bool d]) := by rw [h, g]
theorem ret_3 {a b c d : Int} {e f : Bool} (h : a = b) (g : c = d) (k : e = f) : Ending.returned (.tuple #[.int .i64 a, .int .i64 c, .bool e]) = .returned (.tuple #[.int .i64 b, .int .i64 d, .bool f]) := by rw [h, g, k]
theorem prefix_one (s : List UInt8) (c : UInt8) : Lib.hasPrefix s [c] = decide (s.getD 0 0 = c ∧ 1 ≤ s.length) := by
  cases s with
  | nil => simp [Lib.hasPrefix]
  | cons d r =>
    by_cases h : d = c
    · simp [Lib.hasPrefix, h]
    · have h2 : (c == d) = false := beq_eq_false_iff_ne.2 (fun e => h e.symm)
      show (c == d && _) = _
      rw [h2]
      simp [h]
set_option maxHeartbeats 4000000 in
set_option maxRecDepth 100000 in
theorem parseTagged_any (s : List UInt8) (c : UInt8) (w : World) (hl : s.length ≤ 1048576) (hT : Tab w) :
    Calls Tryd.prog 93 #[.string (strB s), .string ⟨#[c]⟩] w fun e w' => e = .returned (.tuple #[.int .i64 (tagP c s).1, .bool (tagP c s).2]) ∧ Below w.heap.size w w' := by
  have HC := Lib.hid (Tryd.strings_CutPrefix (strB s) ⟨#[c]⟩ w)
  have es : (strB s).data.toList = s := rfl
  have ec : (⟨#[c]⟩ : ByteArray).data.toList = [c] := rfl
  rw [es, ec] at HC
  by_cases h : s.getD 0 0 = c ∧ 1 ≤ s.length
  · have hp : Lib.hasPrefix s [c] = true := by rw [prefix_one]; exact decide_eq_true h
    have ht : Lib.trimPrefix s [c] = s.drop 1 := by unfold Lib.trimPrefix; rw [if_pos hp]; rfl
    have HE : Hid (tagP c s = parI (s.drop 1)) := Lib.hid (if_pos h)
    rw [hp, ht] at HC
    have HP := Lib.hid (parPI (s.drop 1) w (by rw [List.length_drop]; omega) hT)
    clear h hp ht es ec hl hT
    rw [HE.out]
    obtain ⟨n, hn⟩ : ∃ n, (parI (s.drop 1)).1 = n := ⟨_, rfl⟩
    obtain ⟨b, hb⟩ : ∃ b, (parI (s.drop 1)).2 = b := ⟨_, rfl⟩
    rw [hn, hb] at HP ⊢
    clear hn hb HE
    have e2 : (⟨(s.drop 1).toArray⟩ : ByteArray) = strB (s.drop 1) := rfl
    rw [e2] at HC
    clear e2
    generalize strB (s.drop 1) = t at *
    generalize strB s = t0 at *
    go_enter Tryd.func93, Tryd.ntmps93
    go_wp2_with fail
    refine HC.out.mono ?_
    rintro e w1 ⟨rfl, rfl⟩
    go_wp2_with fail
    refine HP.out.mono ?_
    rintro e w2 ⟨rfl, b2⟩
    go_wp2
    go_ret2
    exact ⟨rfl, b2⟩
  · have hp : Lib.hasPrefix s [c] = false := by rw [prefix_one]; exact decide_eq_false h
    have HE : Hid (tagP c s = (0, false)) := Lib.hid (if_neg h)
    rw [hp] at HC
    clear h hp es ec hl hT
    generalize (⟨(Lib.trimPrefix s [c]).toArray⟩ : ByteArray) = t at *
    rw [HE.out]
    generalize strB s = t0 at *
    go_enter Tryd.func93, Tryd.ntmps93
    go_wp2_with fail
    refine HC.out.mono ?_
    rintro e w1 ⟨rfl, rfl⟩
    go_wp2
    go_ret2
    exact ⟨rfl, Below.refl _ _⟩
theorem cut_lens (s sep : List UInt8) : (Lib.cut s sep).1.length ≤ s.length ∧ (Lib.cut s sep).2.1.length ≤ s.length := by
  unfold Lib.cut
  split
  · exact ⟨by rw [List.length_take]; omega, by simp⟩
  · exact ⟨Nat.le_refl _, by simp⟩
set_option maxHeartbeats 4000000 in
set_option maxRecDepth 100000 in
theorem parseRange_any (s : List UInt8) (w : World) (hl : s.length ≤ 1048576) (hT : Tab w) (hM : TabM w) :
    Calls Tryd.prog 112 #[.string (strB s)] w fun e w' => e = .returned (.tuple #[.int .i64 (rngP s).1, .int .i64 (rngP s).2.1, .bool (rngP s).2.2]) ∧ Below w.heap.size w w' := by
  obtain ⟨m, hm⟩ := hM
  have HC := Lib.hid (Tryd.strings_Cut (strB s) ⟨#[46, 46]⟩ m w (by rw [strB_size]; omega) hm)
  have es : (strB s).data.toList = s := rfl
  have ec : (⟨#[46, 46]⟩ : ByteArray).data.toList = [46, 46] := rfl
  rw [es, ec] at HC
  have hls := cut_lens s [46, 46]
  have hR : rngP s = if (Lib.cut s [46, 46]).2.2 && ((parI (Lib.cut s [46, 46]).1).2 && (parI (Lib.cut s [46, 46]).2.1).2) then ((parI (Lib.cut s [46, 46]).1).1, (parI (Lib.cut s [46, 46]).2.1).1, true) else (0, 0, false) := rfl
  have HR := Lib.hid hR
  have HT := Lib.hid hT
  have HA := Lib.hid (fun w h => parPI (Lib.cut s [46, 46]).1 w (by omega) h)
  have HB := Lib.hid (fun w h => parPI (Lib.cut s [46, 46]).2.1 w (by omega) h)
  have e1 : (⟨(Lib.cut s [46, 46]).1.toArray⟩ : ByteArray) = strB (Lib.cut s [46, 46]).1 := rfl
  have e2 : (⟨(Lib.cut s [46, 46]).2.1.toArray⟩ : ByteArray) = strB (Lib.cut s [46, 46]).2.1 := rfl
  rw [e1, e2] at HC
  clear hR hls es ec hl hT hm e1 e2
  obtain ⟨f, hf⟩ : ∃ f, (Lib.cut s [46, 46]).2.2 = f := ⟨_, rfl⟩
  obtain ⟨na, hna⟩ : ∃ n, (parI (Lib.cut s [46, 46]).1).1 = n := ⟨_, rfl⟩
  obtain ⟨oa, hoa⟩ : ∃ n, (parI (Lib.cut s [46, 46]).1).2 = n := ⟨_, rfl⟩
  obtain ⟨nb, hnb⟩ : ∃ n, (parI (Lib.cut s [46, 46]).2.1).1 = n := ⟨_, rfl⟩
  obtain ⟨ob, hob⟩ : ∃ n, (parI (Lib.cut s [46, 46]).2.1).2 = n := ⟨_, rfl⟩
  rw [hf] at HC HR
  rw [hna, hoa] at HA HR
  rw [hnb, hob] at HB HR
  clear hf hna hoa hnb hob
  generalize strB (Lib.cut s [46, 46]).1 = ta at *
  generalize strB (Lib.cut s [46, 46]).2.1 = tb at *
  rw [HR.out]
  clear HR
  generalize strB s = t0 at *
  cases f with
  | false =>
    go_enter Tryd.func112, Tryd.ntmps112
    go_wp2_with fail
    refine HC.out.mono ?_
    rintro e w1 ⟨rfl, n1, hw1⟩
    have b1 : Below w.heap.size w w1 := by rw [hw1]; exact ⟨rfl, rfl, rfl, Nat.le_refl _, fun _ _ => rfl⟩
    clear hw1
    go_wp2_with fail
    refine (HA.out _ (HT.out.on b1)).mono ?_
    rintro e w2 ⟨rfl, b2⟩
    have c2 := b1.trans (b2.mono b1.size)
    go_wp2_with fail
    refine (HB.out _ (HT.out.on c2)).mono ?_
    rintro e w3 ⟨rfl, b3⟩
    have c3 := c2.trans (b3.mono c2.size)
    go_wp2
    go_ret3
    exact ⟨rfl, c3⟩
  | true =>
    cases oa with
    | false =>
      go_enter Tryd.func112, Tryd.ntmps112
      go_wp2_with fail
      refine HC.out.mono ?_
      rintro e w1 ⟨rfl, n1, hw1⟩
      have b1 : Below w.heap.size w w1 := by rw [hw1]; exact ⟨rfl, rfl, rfl, Nat.le_refl _, fun _ _ => rfl⟩
      clear hw1
      go_wp2_with fail
      refine (HA.out _ (HT.out.on b1)).mono ?_
      rintro e w2 ⟨rfl, b2⟩
      have c2 := b1.trans (b2.mono b1.size)
      go_wp2_with fail
      refine (HB.out _ (HT.out.on c2)).mono ?_
      rintro e w3 ⟨rfl, b3⟩
      have c3 := c2.trans (b3.mono c2.size)
      go_wp2
      go_ret3
      exact ⟨rfl, c3⟩
    | true =>
      cases ob with
      | false =>
        go_enter Tryd.func112, Tryd.ntmps112
        go_wp2_with fail
        refine HC.out.mono ?_
        rintro e w1 ⟨rfl, n1, hw1⟩
        have b1 : Below w.heap.size w w1 := by rw [hw1]; exact ⟨rfl, rfl, rfl, Nat.le_refl _, fun _ _ => rfl⟩
        clear hw1
        go_wp2_with fail
        refine (HA.out _ (HT.out.on b1)).mono ?_
        rintro e w2 ⟨rfl, b2⟩
        have c2 := b1.trans (b2.mono b1.size)
        go_wp2_with fail
        refine (HB.out _ (HT.out.on c2)).mono ?_
        rintro e w3 ⟨rfl, b3⟩
        have c3 := c2.trans (b3.mono c2.size)
        go_wp2
        go_ret3
        exact ⟨rfl, c3⟩
      | true =>
        go_enter Tryd.func112, Tryd.ntmps112
        go_wp2_with fail
        refine HC.out.mono ?_
        rintro e w1 ⟨rfl, n1, hw1⟩
        have b1 : Below w.heap.size w w1 := by rw [hw1]; exact ⟨rfl, rfl, rfl, Nat.le_refl _, fun _ _ => rfl⟩
        clear hw1
        go_wp2_with fail
        refine (HA.out _ (HT.out.on b1)).mono ?_
        rintro e w2 ⟨rfl, b2⟩
        have c2 := b1.trans (b2.mono b1.size)
        go_wp2_with fail
        refine (HB.out _ (HT.out.on c2)).mono ?_
        rintro e w3 ⟨rfl, b3⟩
        have c3 := c2.trans (b3.mono c2.size)
        go_wp2
        go_ret3
        exact ⟨rfl, c3⟩
theorem wpl_append_conds {w : World} {ops : Array Oper} {rest : List Oper} {o : Oper} {a : Act} {Q : Exit → Act → World → Prop} (hgd : o.guard = none) (s x : Operand)
    (ho : o.op = .call { callee := .builtin .append, args := #[s, x], argTypes := #[44, 44] })
    (B : Nat) (v u : Value) (cs ds : List CondD) (hs : a.eval s = v) (hx : a.eval x = u) (hown : OwnsC w B v cs) (hu : CondsR w u ds) (hB : B ≤ w.heap.size) (h63 : cs.length + ds.length ≤ 17592186044)
    (h : ∀ v' w', OwnsC w' B v' (cs ++ ds) → Below B w w' → wpList Tryd.prog ops Q rest (a.put o.dst v') w') : wpList Tryd.prog ops Q (o :: rest) a w := by
  refine wpList_plain hgd fun K hK => ?_
  obtain ⟨v', w', hr, h2, h3⟩ := run_append_conds o.type hown hu hB h63
  unfold Oper.wp
  simp [execOp, ho, resolve, invoke, builtin, hs, hx, hr, Result.andThen]
  exact hK _ _ (h v' w' h2 h3)
/-- What parseConds answers. -/
def CondsAns (w : World) (r : Option (List CondD)) (e : Ending) (w' : World) : Prop := ∃ v, e = .returned (.tuple #[v, .bool r.isSome]) ∧ OwnsC w' w.heap.size v (r.getD []) ∧ Below w.heap.size w w'
theorem condsAns_yes {w w' : World} {r : Option (List CondD)} {ys : List CondD} {v : Value} (h : r = some ys) (o : OwnsC w' w.heap.size v ys) (b : Below w.heap.size w w') : CondsAns w r (.returned (.tuple #[v, .bool true])) w' := ⟨v, by rw [h]; rfl, by rw [h]; exact o, b⟩
theorem condsAns_no {w w' : World} {r : Option (List CondD)} (h : r = none) (b : Below w.heap.size w w') : CondsAns w r (.returned (.tuple #[.slice none 0 0, .bool false])) w' := ⟨.slice none 0 0, by rw [h]; rfl, by rw [h]; exact ownsC_nil _ _, b⟩
set_option maxHeartbeats 8000000 in
set_option maxRecDepth 100000 in
theorem parseConds_any (b off cap : Nat) (P : List (List UInt8)) (w : World) (hc : ∀ j, j < P.length → w.cell? ⟨b, off + j, none⟩ = some (.string (strB (P.getD j [])))) (hbl : b < w.heap.size) (hn : P.length ≤ 1048577) (hq : ∀ j, (P.getD j []).length ≤ 1048576) (hT : Tab w) (hM : TabM w) :
    Calls Tryd.prog 94 #[.slice (some ⟨b, off, none⟩) P.length cap] w (CondsAns w (condsGo [] P)) := by
  have HC := Lib.hid hc
  have HN := Lib.hid hn
  have HQ := Lib.hid hq
  have HT := Lib.hid hT
  have HM := Lib.hid hM
  clear hc hq hT hM
  by_cases h2 : P.length % 2 = 0
  · obtain ⟨N, hN⟩ : ∃ N, P.length = 2 * N := ⟨P.length / 2, by omega⟩
    have r0 : ((P.length : Int) % 2 != 0) = false := by rw [bne_eq_false_iff_eq]; omega
    have HNN := Lib.hid hN
    clear hN h2
    go_enter Tryd.func94, Tryd.ntmps94
    go_wp2
    clear r0
    go_loopw [4, 5] (fun l i wr => ∃ (k m : Nat) (acc : List CondD), k ≤ N ∧ Hid (m = 2 * k) ∧ i = .int .i64 m ∧ acc.length = k ∧ Hid (condsGo acc (P.drop m) = condsGo [] P) ∧ OwnsC wr w.heap.size l acc ∧ Below w.heap.size w wr) (fun _ i _ => P.length - (intOf i).toNat)
    case atStart => exact ⟨0, 0, [], Nat.zero_le _, Lib.hid rfl, rfl, rfl, Lib.hid rfl, ownsC_nil _ _, Below.refl _ _⟩
    case round =>
      obtain ⟨k, m, acc, hk, hmk, rfl, hal, hgo, hown, hbel⟩ := hrel
      have HAL := Lib.hid hal
      clear hal
      by_cases hlt : k < N
      · have hml : m + 1 < P.length := by have := hmk.out; have := HNN.out; omega
        have c0 := (hbel.cell (p := ⟨b, off + m, none⟩) hbl).trans (HC.out m (by omega))
        have c1 := (hbel.cell (p := ⟨b, off + (m + 1), none⟩) hbl).trans (HC.out (m + 1) (by omega))
        have i1 : (0 : Int) ≤ (m : Int) := by omega
        have i2 : (m : Int) < (P.length : Int) := by omega
        have i3 : (0 : Int) ≤ (m : Int) + 1 := by omega
        have i4 : (m : Int) + 1 < (P.length : Int) := by omega
        have i5 : ((m : Int) + 1).toNat = m + 1 := by omega
        have i6 : m ≤ 1048576 := by have := HN.out; omega
        have wa : IntKind.i64.wrap ((m : Int) + 1) = (m : Int) + 1 := IntWalk.i64_in _ (by omega)
        have HHIT := Lib.hid (condsGo_hit (acc := acc) hml)
        have HMISS := Lib.hid (condsGo_miss (acc := acc) hml)
        rw [hgo.out] at HHIT HMISS
        have HA := Lib.hid (fun w h => parseTagged_any (P.getD m []) 102 w (HQ.out m) h)
        have HB := Lib.hid (fun w h h' => parseRange_any (P.getD (m + 1) []) w (HQ.out (m + 1)) h h')
        obtain ⟨ca, ccap, rfl⟩ := ownsC_len hown
        have HTK : Hid (∀ k', m + 2 = 2 * (k' + 1) ↔ k' = k) := Lib.hid (by intro k'; have := hmk.out; omega)
        have HM2 : Hid (m + 2 = 2 * (k + 1)) := Lib.hid (by have := hmk.out; omega)
        have HPD : Hid (P.length - (m + 2) < P.length - m) := Lib.hid (by omega)
        clear hgo hml HTK
        generalize P.getD m [] = pa at *
        generalize P.getD (m + 1) [] = pb at *
        obtain ⟨fa, hfa⟩ : ∃ x, (tagP 102 pa).1 = x := ⟨_, rfl⟩
        obtain ⟨ta, hta⟩ : ∃ x, (tagP 102 pa).2 = x := ⟨_, rfl⟩
        obtain ⟨lo, hlo⟩ : ∃ x, (rngP pb).1 = x := ⟨_, rfl⟩
        obtain ⟨hi, hhi⟩ : ∃ x, (rngP pb).2.1 = x := ⟨_, rfl⟩
        obtain ⟨tb, htb⟩ : ∃ x, (rngP pb).2.2 = x := ⟨_, rfl⟩
        rw [hfa, hta] at HA HHIT
        rw [hta, htb] at HMISS
        rw [hlo, hhi, htb] at HB
        rw [hlo, hhi, htb] at HHIT
        clear hfa hta hlo hhi htb
        generalize strB pa = sa at *
        generalize strB pb = sb at *
        cases ta with
        | false =>
          have HF := Lib.hid (HMISS.out rfl)
          clear HHIT HMISS
          go_wp2_with fail
          refine (HA.out _ (HT.out.on hbel)).mono ?_
          rintro e w1 ⟨rfl, b1⟩
          have d1 := hbel.trans (b1.mono hbel.size)
          have o1 := ownsC_below hown b1
          have c1' := (b1.cell (p := ⟨b, off + (m + 1), none⟩) (Nat.lt_of_lt_of_le hbl hbel.size)).trans c1
          clear hown c0 c1 b1 hbel
          go_wp2_with fail
          refine (HB.out _ (HT.out.on d1) (HM.out.on d1)).mono ?_
          rintro e w2 ⟨rfl, b2⟩
          have d2 := d1.trans (b2.mono d1.size)
          have o2 := ownsC_below o1 b2
          clear o1 c1' b2 d1
          go_wp2
          go_ret2
          exact condsAns_no HF.out d2
        | true =>
          cases tb with
          | false =>
            have HF := Lib.hid (HMISS.out rfl)
            clear HHIT HMISS
            go_wp2_with fail
            refine (HA.out _ (HT.out.on hbel)).mono ?_
            rintro e w1 ⟨rfl, b1⟩
            have d1 := hbel.trans (b1.mono hbel.size)
            have o1 := ownsC_below hown b1
            have c1' := (b1.cell (p := ⟨b, off + (m + 1), none⟩) (Nat.lt_of_lt_of_le hbl hbel.size)).trans c1
            clear hown c0 c1 b1 hbel
            go_wp2_with fail
            refine (HB.out _ (HT.out.on d1) (HM.out.on d1)).mono ?_
            rintro e w2 ⟨rfl, b2⟩
            have d2 := d1.trans (b2.mono d1.size)
            have o2 := ownsC_below o1 b2
            clear o1 c1' b2 d1
            go_wp2
            go_ret2
            exact condsAns_no HF.out d2
          | true =>
            have HG := Lib.hid (HHIT.out rfl rfl).symm
            clear HHIT HMISS
            go_wp2_with fail
            refine (HA.out _ (HT.out.on hbel)).mono ?_
            rintro e w1 ⟨rfl, b1⟩
            have d1 := hbel.trans (b1.mono hbel.size)
            have o1 := ownsC_below hown b1
            have c1' := (b1.cell (p := ⟨b, off + (m + 1), none⟩) (Nat.lt_of_lt_of_le hbl hbel.size)).trans c1
            clear hown c0 c1 b1 hbel
            go_wp2_with fail
            refine (HB.out _ (HT.out.on d1) (HM.out.on d1)).mono ?_
            rintro e w2 ⟨rfl, b2⟩
            have d2 := d1.trans (b2.mono d1.size)
            have o2 := ownsC_below o1 b2
            clear o1 c1' b2 d1
            have al : Below w2.heap.size w2 (w2.alloc (.cells #[.int .i64 fa, .int .i64 lo, .int .i64 hi] 79)) := (Below.refl _ _).alloc (Nat.le_refl _) _
            have q7 : (w2.alloc (.cells #[.int .i64 fa, .int .i64 lo, .int .i64 hi] 79)).cell? ⟨w2.heap.size, 0, none⟩ = some (.int .i64 fa) ∧ (w2.alloc (.cells #[.int .i64 fa, .int .i64 lo, .int .i64 hi] 79)).cell? ⟨w2.heap.size, 1, none⟩ = some (.int .i64 lo) ∧ (w2.alloc (.cells #[.int .i64 fa, .int .i64 lo, .int .i64 hi] 79)).cell? ⟨w2.heap.size, 2, none⟩ = some (.int .i64 hi) := ⟨(cell_lit w2 #[.int .i64 fa, .int .i64 lo, .int .i64 hi] 79 0).trans rfl, (cell_lit w2 #[.int .i64 fa, .int .i64 lo, .int .i64 hi] 79 1).trans rfl, (cell_lit w2 #[.int .i64 fa, .int .i64 lo, .int .i64 hi] 79 2).trans rfl⟩
            have l7 : w2.heap.size < (w2.alloc (.cells #[.int .i64 fa, .int .i64 lo, .int .i64 hi] 79)).heap.size := by simp
            have o3 := ownsC_below o2 al
            have d3 := d2.trans (al.mono d2.size)
            have HR7 := Lib.hid (conds_one q7 l7)
            clear o2 q7 l7 al d2
            go_wp2_with (at_builtin; refine wpl_append_conds rfl (.tmp 45) (.tmp 50) rfl w.heap.size _ _ acc [(fa, lo, hi)] rfl rfl o3 HR7.out d3.size (by have := HAL.out; have := HN.out; have := HNN.out; simp; omega) ?_; intro u4 w4 o4 b4)
            have d4 := d3.trans b4
            go_roundw
            case rel => exact ⟨k + 1, m + 2, acc ++ [(fa, lo, hi)], by omega, HM2, by go_num, by simp; exact HAL.out, HG, o4, d4⟩
            case measure => simp [intOf]; omega
      · obtain rfl : k = N := by omega
        have hm : m = P.length := by have := hmk.out; have := HNN.out; omega
        have HA : Hid (condsGo [] P = some acc) := Lib.hid (by rw [← hgo.out, hm, List.drop_length]; rfl)
        subst hm
        clear hgo
        go_wp2
        go_ret2
        exact condsAns_yes HA.out hown hbel
  · have r0 : ((P.length : Int) % 2 != 0) = true := by rw [bne_iff_ne]; omega
    have HF := Lib.hid (condsGo_odd P [] h2)
    clear h2
    go_enter Tryd.func94, Tryd.ntmps94
    go_wp2
    go_ret2
    exact condsAns_no HF.out (Below.refl _ _)
/-- What queryOf answers: a query in memory of its own, and whether the pieces are a query's. -/
def QueryAns (w : World) (r : Option QD) (e : Ending) (w' : World) : Prop :=
  ∃ (q : QD) (cv ov : Value), e = .returned (.tuple #[qV q.1 q.2.1 cv ov, .bool r.isSome]) ∧ OwnsC w' w.heap.size cv q.2.2.1 ∧ OwnsN w' w.heap.size ov q.2.2.2 ∧ (∀ b, cv.ownBlock = some b → ov.ownBlock ≠ some b) ∧ (∀ q', r = some q' → q' = q) ∧ q.2.2.1.length ≤ 1048576 ∧ q.2.2.2.length ≤ 1048576 ∧ Below w.heap.size w w'
theorem queryAns_zero {w w' : World} {r : Option QD} (h : r = none) (b : Below w.heap.size w w') : QueryAns w r (.returned (.tuple #[qV 0 0 (.slice none 0 0) (.slice none 0 0), .bool false])) w' :=
  ⟨q0D, .slice none 0 0, .slice none 0 0, by rw [h]; rfl, ownsC_nil _ _, ownsN_nil _ _, fun b hb => by simp [Value.ownBlock] at hb, fun q' hq => by rw [h] at hq; simp at hq, by simp [q0D], by simp [q0D], b⟩
theorem pQ_short {P : List (List UInt8)} (h : P.length < 4) : pQ P = none := by unfold pQ; rw [if_pos (Or.inl h)]
theorem pQ_word {P : List (List UInt8)} (h : P.getD (P.length - 2) [] ≠ [111, 117, 116]) : pQ P = none := by unfold pQ; rw [if_pos (Or.inr h)]
theorem pQ_go {P : List (List UInt8)} (h1 : ¬ P.length < 4) (h2 : P.getD (P.length - 2) [] = [111, 117, 116]) : pQ P = pickQ (tagP 113 (P.getD 0 [])) (tagP 116 (P.getD 1 [])) (condsGo [] ((P.drop 2).take (P.length - 4))) (intsGo [] (cutL 44 (P.getD (P.length - 1) []))) := by
  unfold pQ; rw [if_neg (fun g => g.elim h1 (fun g => g h2))]
theorem queryAns_any {w w' : World} {r : Option QD} {n0 n1 : Int} {cs : List CondD} {os : List Int} {cv ov : Value} {ok : Bool} (h1 : r.isSome = ok) (h2 : ∀ q, r = some q → q = (n0, n1, cs, os)) (o : OwnsC w' w.heap.size cv cs) (n : OwnsN w' w.heap.size ov os) (d : ∀ b, cv.ownBlock = some b → ov.ownBlock ≠ some b) (l1 : cs.length ≤ 1048576) (l2 : os.length ≤ 1048576) (b : Below w.heap.size w w') :
    QueryAns w r (.returned (.tuple #[qV n0 n1 cv ov, .bool ok])) w' := ⟨(n0, n1, cs, os), cv, ov, by rw [h1], o, n, d, h2, l1, l2, b⟩
theorem condsGo_len : ∀ (P : List (List UInt8)) (acc r : List CondD), condsGo acc P = some r → r.length ≤ acc.length + P.length
  | [], acc, r, h => by simp [condsGo] at h; rw [h]; simp
  | [_], acc, r, h => by simp [condsGo] at h
  | a :: b :: q, acc, r, h => by
    change (if _ then _ else _) = _ at h
    split at h
    · have := condsGo_len q _ r h
      simp at this ⊢; omega
    · simp at h
set_option maxHeartbeats 8000000 in
set_option maxRecDepth 100000 in
theorem queryOf_any (b : Nat) (cap : Nat) (P : List (List UInt8)) (w : World) (hc : ∀ j, j < P.length → w.cell? ⟨b, j, none⟩ = some (.string (strB (P.getD j [])))) (hbl : b < w.heap.size) (hn : P.length ≤ 1048577) (hcap : P.length ≤ cap) (hq : ∀ j, (P.getD j []).length ≤ 1048576) (hq2 : 4 ≤ P.length → ∀ j, (P.getD j []).length ≤ 1048575) (hT : Tab w) (hM : TabM w) :
    Calls Tryd.prog 65 #[.slice (some ⟨b, 0, none⟩) P.length cap] w (QueryAns w (pQ P)) := by
  have HC := Lib.hid hc
  have HN := Lib.hid hn
  have HQ := Lib.hid hq
  have HT := Lib.hid hT
  have HM := Lib.hid hM
  have HCAP := Lib.hid hcap
  clear hc hq hT hM
  have wa : IntKind.i64.wrap ((P.length : Int) - 2) = (P.length : Int) - 2 := IntWalk.i64_in _ (by omega)
  have hb0 : Below w.heap.size w (w.alloc (.cells #[.int .i64 0, .int .i64 0, .slice none 0 0, .slice none 0 0] 46)) := (Below.refl _ w).alloc (Nat.le_refl _) _
  have g0 := heap_alloc_new w (.cells #[.int .i64 0, .int .i64 0, .slice none 0 0, .slice none 0 0] 46)
  have hlt : w.heap.size < (w.alloc (.cells #[.int .i64 0, .int .i64 0, .slice none 0 0, .slice none 0 0] 46)).heap.size := by simp
  have z0 := (cell_of_row (w.alloc (.cells #[.int .i64 0, .int .i64 0, .slice none 0 0, .slice none 0 0] 46)) _ 0 _ _ _ g0).trans (show _ = some (Value.int .i64 0) from rfl)
  have z1 := (cell_of_row (w.alloc (.cells #[.int .i64 0, .int .i64 0, .slice none 0 0, .slice none 0 0] 46)) _ 1 _ _ _ g0).trans (show _ = some (Value.int .i64 0) from rfl)
  have z2 := (cell_of_row (w.alloc (.cells #[.int .i64 0, .int .i64 0, .slice none 0 0, .slice none 0 0] 46)) _ 2 _ _ _ g0).trans (show _ = some (Value.slice none 0 0) from rfl)
  have z3 := (cell_of_row (w.alloc (.cells #[.int .i64 0, .int .i64 0, .slice none 0 0, .slice none 0 0] 46)) _ 3 _ _ _ g0).trans (show _ = some (Value.slice none 0 0) from rfl)
  have f0 := frozen_of_row (w.alloc (.cells #[.int .i64 0, .int .i64 0, .slice none 0 0, .slice none 0 0] 46)) _ 0 _ _ g0
  have f1 := frozen_of_row (w.alloc (.cells #[.int .i64 0, .int .i64 0, .slice none 0 0, .slice none 0 0] 46)) _ 1 _ _ g0
  have f2 := frozen_of_row (w.alloc (.cells #[.int .i64 0, .int .i64 0, .slice none 0 0, .slice none 0 0] 46)) _ 2 _ _ g0
  have f3 := frozen_of_row (w.alloc (.cells #[.int .i64 0, .int .i64 0, .slice none 0 0, .slice none 0 0] 46)) _ 3 _ _ g0
  by_cases h4 : P.length < 4
  · have HF := Lib.hid (pQ_short h4)
    clear hq2
    have i0 : (P.length : Int) - 2 < 2 := by omega
    clear h4 hcap hn
    go_enter Tryd.func65, Tryd.ntmps65
    go_wp2
    generalize w.alloc (.cells #[.int .i64 0, .int .i64 0, .slice none 0 0, .slice none 0 0] 46) = W at *
    have e0 := cell_of_row W _ 0 _ _ _ g0
    have e1 := cell_of_row W _ 1 _ _ _ g0
    have e2 := cell_of_row W _ 2 _ _ _ g0
    have e3 := cell_of_row W _ 3 _ _ _ g0
    simp at e0 e1 e2 e3
    refine bodyPost_ret (v := .tuple #[qV 0 0 (.slice none 0 0) (.slice none 0 0), .bool false]) ?_ rfl ?_
    · simp [results, Tryd.f65, go_sem, e0, e1, e2, e3, qV]
    · exact queryAns_zero HF.out hb0
  obtain ⟨m, hm⟩ : ∃ m, P.length = m + 2 := ⟨P.length - 2, by omega⟩
  have hm2 : 2 ≤ m := by omega
  have wb : IntKind.i64.wrap ((P.length : Int) - 2) = (m : Int) := by rw [wa]; omega
  have we : (P.length : Int) - 2 = (m : Int) := by omega
  have j0 : (0 : Int) ≤ (m : Int) := by omega
  have j1 : (m : Int) < (P.length : Int) := by omega
  have j2 : ¬ (m : Int) < 2 := by omega
  have cm := (hb0.cell (p := ⟨b, m, none⟩) hbl).trans (HC.out m (by omega))
  have HMM := Lib.hid hm
  have hGO := pQ_go (P := P) h4
  rw [show P.length - 2 = m by omega] at hGO
  have hWD := pQ_word (P := P)
  rw [show P.length - 2 = m by omega] at hWD
  have HGO := Lib.hid hGO
  have HWD := Lib.hid hWD
  have em : (strB (P.getD m [])).toList = P.getD m [] := strB_toList _
  have HQ3 := hq2 (by omega)
  clear hm hGO hWD wa h4
  by_cases ho : P.getD m [] = [111, 117, 116]
  · have ho' : (!((strB (P.getD m [])).toList == [111, 117, 116])) = false := by rw [em, ho]; rfl
    have HG := Lib.hid (HGO.out ho)
    have HP4 : Hid (P.length - 4 = m - 2) := Lib.hid (by have := HMM.out; omega)
    rw [show P.length - 4 = m - 2 from HP4.out, show P.length - 1 = m + 1 by have := HMM.out; omega] at HG
    obtain ⟨P2, hP2⟩ : ∃ P2, (P.drop 2).take (m - 2) = P2 := ⟨_, rfl⟩
    have hl2 : P2.length = m - 2 := by rw [← hP2, List.length_take, List.length_drop]; have := HMM.out; omega
    have hg2 : ∀ j, j < P2.length → P2.getD j [] = P.getD (2 + j) [] := fun j hj => by
      rw [hl2] at hj
      rw [← hP2, List.getD, List.getD, List.getElem?_take, if_pos hj, List.getElem?_drop]
    have hq3 : ∀ j, (P2.getD j []).length ≤ 1048576 := fun j => by
      by_cases hj : j < P2.length
      · rw [hg2 j hj]; exact HQ.out _
      · rw [List.getD, List.getElem?_eq_none (by omega)]; simp
    have HCO : Hid (∀ cap' w', Below w.heap.size w w' → Calls Tryd.prog 94 #[.slice (some ⟨b, 2, none⟩) P2.length cap'] w' (CondsAns w' (condsGo [] P2))) := Lib.hid (fun cap' w' hb => parseConds_any b 2 cap' P2 w' (fun j hj => by
      rw [hg2 j hj]
      exact (hb.cell (p := ⟨b, 2 + j, none⟩) hbl).trans (HC.out (2 + j) (by have := HMM.out; omega))) (Nat.lt_of_lt_of_le hbl hb.size) (by have := HN.out; have := HMM.out; omega) hq3 (HT.out.on hb) (HM.out.on hb))
    have HCL : Hid (∀ cs, condsGo [] P2 = some cs → cs.length ≤ 1048576) := Lib.hid (fun cs h => by have := condsGo_len P2 [] cs h; simp at this; have := HN.out; have := HMM.out; omega)
    rw [hP2] at HG
    have HL2 := Lib.hid hl2
    rw [hl2] at HCO
    have HA := Lib.hid (fun w h => parseTagged_any (P.getD 0 []) 113 w (HQ.out 0) h)
    have HB := Lib.hid (fun w h => parseTagged_any (P.getD 1 []) 116 w (HQ.out 1) h)
    have HS := Lib.hid (fun w h => Comma.splitInts_any (P.getD (m + 1) []) w (HQ.out (m + 1)) h)
    have HIL : Hid (∀ os, intsGo [] (cutL 44 (P.getD (m + 1) [])) = some os → os.length ≤ 1048576) := Lib.hid (fun os h => by
      obtain ⟨_, e⟩ := intsGo_some _ _ _ h
      rw [e, List.nil_append, List.length_map]; have := cut_len 44 (P.getD (m + 1) []); have := HQ3 (m + 1); omega)
    have c0 := (hb0.cell (p := ⟨b, 0, none⟩) hbl).trans (HC.out 0 (by omega))
    have c1 := HC.out 1 (by omega)
    have cl := HC.out (m + 1) (by have := HMM.out; omega)
    have k1 : (0 : Int) < (P.length : Int) := by omega
    have k2 : (1 : Int) < (P.length : Int) := by omega
    have k3 : (m : Int) + 1 < (P.length : Int) := by have := HMM.out; omega
    have k4 : (0 : Int) ≤ (m : Int) + 1 := by omega
    have k5 : ((m : Int) + 1).toNat = m + 1 := by omega
    have k6 : IntKind.i64.wrap ((m : Int) + 1) = (m : Int) + 1 := IntWalk.i64_in _ (by omega)
    have k7 : (2 : Int) ≤ (m : Int) := by omega
    have k8 : (m : Int) ≤ (cap : Int) := by have := HCAP.out; omega
    clear hP2 hl2 hg2 hq2 hq3 em ho HGO HWD HQ3
    generalize P.getD 0 [] = p0 at *
    generalize P.getD 1 [] = p1 at *
    generalize P.getD (m + 1) [] = pl at *
    generalize strB (P.getD m []) = sm at *
    have hpf := pickQ_facts (tagP 113 p0) (tagP 116 p1) (condsGo [] P2) (intsGo [] (cutL 44 pl))
    rw [← HG.out] at hpf
    obtain ⟨n0, hn0⟩ : ∃ x, (tagP 113 p0).1 = x := ⟨_, rfl⟩
    obtain ⟨t0, ht0⟩ : ∃ x, (tagP 113 p0).2 = x := ⟨_, rfl⟩
    obtain ⟨n1, hn1⟩ : ∃ x, (tagP 116 p1).1 = x := ⟨_, rfl⟩
    obtain ⟨t1, ht1⟩ : ∃ x, (tagP 116 p1).2 = x := ⟨_, rfl⟩
    rw [hn0, ht0] at HA hpf
    rw [hn1, ht1] at HB hpf
    clear hn0 ht0 hn1 ht1 HG
    generalize condsGo [] P2 = r1 at *
    generalize intsGo [] (cutL 44 pl) = r2 at *
    have HOK := Lib.hid hpf.1
    have HEQ := Lib.hid hpf.2
    have HL1 : Hid ((r1.getD []).length ≤ 1048576) := Lib.hid (by cases r1 with | none => simp | some cs => exact HCL.out cs rfl)
    have HL3 : Hid ((r2.getD []).length ≤ 1048576) := Lib.hid (by cases r2 with | none => simp | some cs => exact HIL.out cs rfl)
    clear hpf HCL HIL
    go_enter Tryd.func65, Tryd.ntmps65
    go_wp2_with fail
    generalize w.alloc (.cells #[.int .i64 0, .int .i64 0, .slice none 0 0, .slice none 0 0] 46) = W at *
    refine (HA.out _ (HT.out.on hb0)).mono ?_
    rintro e w1 ⟨rfl, b1⟩
    have d1 := hb0.trans (b1.mono hb0.size)
    have g1 := (b1.block w.heap.size hlt).trans g0
    have l1 := Nat.lt_of_lt_of_le hlt b1.size
    replace c1 := (d1.cell (p := ⟨b, 1, none⟩) hbl).trans c1
    clear hb0 g0 hlt b1 z0 z1 z2 z3 f0 f1 f2 f3 cm c0
    go_wp2_with fail
    refine (HB.out _ (HT.out.on d1)).mono ?_
    rintro e w2 ⟨rfl, b2⟩
    have d2 := d1.trans (b2.mono d1.size)
    have g2 := (b2.block w.heap.size l1).trans g1
    have l2 := Nat.lt_of_lt_of_le l1 b2.size
    clear d1 g1 l1 b2 c1
    go_wp2_with fail
    have L1 := Lib.hid l2
    refine (HCO.out _ _ d2).mono ?_
    rintro e w3 ⟨cv, rfl, oc, b3⟩
    have d3 := d2.trans (b3.mono d2.size)
    have g3 := (b3.block w.heap.size l2).trans g2
    have l3 := Nat.lt_of_lt_of_le l2 b3.size
    replace cl := (d3.cell (p := ⟨b, m + 1, none⟩) hbl).trans cl
    go_wp2_with fail
    refine (HS.out _ (HT.out.on d3)).mono ?_
    rintro e w4 ⟨ov, rfl, oo, b4⟩
    have d4 := d3.trans (b4.mono d3.size)
    have g4 := (b4.block w.heap.size l3).trans g3
    have l4 := Nat.lt_of_lt_of_le l3 b4.size
    have hap : ∀ x, cv.ownBlock = some x → ov.ownBlock ≠ some x := fun x h1 h2 => by have := (oc.lt x h1).2; have := (oo.lt x h2).1; omega
    have oc4 := ownsC_below oc b4
    clear oc d2 g2 l2 b3 g3 cl b4
    obtain ⟨ca, ccap, rfl⟩ := ownsC_len oc4
    obtain ⟨oa, ocap, rfl⟩ := ints_len (ownsN_ints oo)
    generalize r1.getD [] = cs at *
    generalize r2.getD [] = os at *
    generalize r1.isSome = s1 at *
    generalize r2.isSome = s2 at *
    have hb5 : Below w4.heap.size w4 (w4.alloc (.cells #[.int .i64 n0, .int .i64 n1, .slice ca cs.length ccap, .slice oa os.length ocap] 46)) := (Below.refl _ _).alloc (Nat.le_refl _) _
    have g5 := (hb5.block w.heap.size l4).trans g4
    have o5 := Lib.hid (ownsC_below oc4 hb5)
    have n5 := Lib.hid (ownsN_below oo hb5)
    have D5 := Lib.hid (d4.trans (hb5.mono d4.size))
    have L2 := Lib.hid l3
    have hq5 := heap_alloc_new w4 (.cells #[.int .i64 n0, .int .i64 n1, .slice ca cs.length ccap, .slice oa os.length ocap] 46)
    have y0 := (cell_of_row (w4.alloc (.cells #[.int .i64 n0, .int .i64 n1, .slice ca cs.length ccap, .slice oa os.length ocap] 46)) _ 0 _ _ _ hq5).trans (show _ = some (Value.int .i64 n0) from rfl)
    have y1 := (cell_of_row (w4.alloc (.cells #[.int .i64 n0, .int .i64 n1, .slice ca cs.length ccap, .slice oa os.length ocap] 46)) _ 1 _ _ _ hq5).trans (show _ = some (Value.int .i64 n1) from rfl)
    have y2 := (cell_of_row (w4.alloc (.cells #[.int .i64 n0, .int .i64 n1, .slice ca cs.length ccap, .slice oa os.length ocap] 46)) _ 2 _ _ _ hq5).trans (show _ = some (Value.slice ca cs.length ccap) from rfl)
    have y3 := (cell_of_row (w4.alloc (.cells #[.int .i64 n0, .int .i64 n1, .slice ca cs.length ccap, .slice oa os.length ocap] 46)) _ 3 _ _ _ hq5).trans (show _ = some (Value.slice oa os.length ocap) from rfl)
    have z0 := (cell_of_row (w4.alloc (.cells #[.int .i64 n0, .int .i64 n1, .slice ca cs.length ccap, .slice oa os.length ocap] 46)) _ 0 _ _ _ g5).trans (show _ = some (Value.int .i64 0) from rfl)
    have f0 := frozen_of_row (w4.alloc (.cells #[.int .i64 n0, .int .i64 n1, .slice ca cs.length ccap, .slice oa os.length ocap] 46)) _ 0 _ _ g5
    have z1 := (cell_of_row (w4.alloc (.cells #[.int .i64 n0, .int .i64 n1, .slice ca cs.length ccap, .slice oa os.length ocap] 46)) _ 1 _ _ _ g5).trans (show _ = some (Value.int .i64 0) from rfl)
    have f1 := frozen_of_row (w4.alloc (.cells #[.int .i64 n0, .int .i64 n1, .slice ca cs.length ccap, .slice oa os.length ocap] 46)) _ 1 _ _ g5
    have z2 := (cell_of_row (w4.alloc (.cells #[.int .i64 n0, .int .i64 n1, .slice ca cs.length ccap, .slice oa os.length ocap] 46)) _ 2 _ _ _ g5).trans (show _ = some (Value.slice none 0 0) from rfl)
    have f2 := frozen_of_row (w4.alloc (.cells #[.int .i64 n0, .int .i64 n1, .slice ca cs.length ccap, .slice oa os.length ocap] 46)) _ 2 _ _ g5
    have z3 := (cell_of_row (w4.alloc (.cells #[.int .i64 n0, .int .i64 n1, .slice ca cs.length ccap, .slice oa os.length ocap] 46)) _ 3 _ _ _ g5).trans (show _ = some (Value.slice none 0 0) from rfl)
    have f3 := frozen_of_row (w4.alloc (.cells #[.int .i64 n0, .int .i64 n1, .slice ca cs.length ccap, .slice oa os.length ocap] 46)) _ 3 _ _ g5
    have HG5 := Lib.hid g5
    have HAP := Lib.hid hap
    clear hap oc4 oo hb5 g5 hq5 d4 g4 l4
    cases t0 with
    | false =>
      have HO2 : Hid ((pQ P).isSome = false) := Lib.hid (by rw [HOK.out]; rfl)
      clear HOK
      go_wp2
      generalize (w4.alloc (.cells #[.int .i64 n0, .int .i64 n1, .slice ca cs.length ccap, .slice oa os.length ocap] 46)) = W5 at *
      have r1 := heap_setCell_same W5 (w.heap.size) 0 _ _ (.int .i64 n0) HG5.out
      have r2 := heap_setCell_same _ (w.heap.size) 1 _ _ (.int .i64 n1) r1
      have r3 := heap_setCell_same _ (w.heap.size) 2 _ _ (.slice ca cs.length ccap) r2
      have r4 := heap_setCell_same _ (w.heap.size) 3 _ _ (.slice oa os.length ocap) r3
      have B6 := ((((D5.out.setCell (p := ⟨w.heap.size, 0, none⟩) (Nat.le_refl _) (.int .i64 n0)).setCell (p := ⟨w.heap.size, 1, none⟩) (Nat.le_refl _) (.int .i64 n1)).setCell (p := ⟨w.heap.size, 2, none⟩) (Nat.le_refl _) (.slice ca cs.length ccap)).setCell (p := ⟨w.heap.size, 3, none⟩) (Nat.le_refl _) (.slice oa os.length ocap))
      have O6 := (ownsC_low (ownsC_low (ownsC_low (ownsC_low o5.out (b := w.heap.size) L1.out 0 (.int .i64 n0)) (b := w.heap.size) L1.out 1 (.int .i64 n1)) (b := w.heap.size) L1.out 2 (.slice ca cs.length ccap)) (b := w.heap.size) L1.out 3 (.slice oa os.length ocap))
      have N6 := (ownsN_low (ownsN_low (ownsN_low (ownsN_low n5.out (b := w.heap.size) L2.out 0 (.int .i64 n0)) (b := w.heap.size) L2.out 1 (.int .i64 n1)) (b := w.heap.size) L2.out 2 (.slice ca cs.length ccap)) (b := w.heap.size) L2.out 3 (.slice oa os.length ocap))
      have e0 := cell_of_row _ _ 0 _ _ _ r4
      have e1 := cell_of_row _ _ 1 _ _ _ r4
      have e2 := cell_of_row _ _ 2 _ _ _ r4
      have e3 := cell_of_row _ _ 3 _ _ _ r4
      simp at e0 e1 e2 e3
      refine bodyPost_ret (v := .tuple #[qV n0 n1 (.slice ca cs.length ccap) (.slice oa os.length ocap), .bool false]) ?_ rfl ?_
      · simp [results, Tryd.f65, go_sem, e0, e1, e2, e3, qV]
      · exact queryAns_any HO2.out HEQ.out (ownsC_up O6 (Nat.le_of_lt L1.out)) (ownsN_up N6 (Nat.le_of_lt L2.out)) HAP.out HL1.out HL3.out B6
    | true =>
      cases t1 with
      | false =>
        have HO2 : Hid ((pQ P).isSome = false) := Lib.hid (by rw [HOK.out]; rfl)
        clear HOK
        go_wp2
        generalize (w4.alloc (.cells #[.int .i64 n0, .int .i64 n1, .slice ca cs.length ccap, .slice oa os.length ocap] 46)) = W5 at *
        have r1 := heap_setCell_same W5 (w.heap.size) 0 _ _ (.int .i64 n0) HG5.out
        have r2 := heap_setCell_same _ (w.heap.size) 1 _ _ (.int .i64 n1) r1
        have r3 := heap_setCell_same _ (w.heap.size) 2 _ _ (.slice ca cs.length ccap) r2
        have r4 := heap_setCell_same _ (w.heap.size) 3 _ _ (.slice oa os.length ocap) r3
        have B6 := ((((D5.out.setCell (p := ⟨w.heap.size, 0, none⟩) (Nat.le_refl _) (.int .i64 n0)).setCell (p := ⟨w.heap.size, 1, none⟩) (Nat.le_refl _) (.int .i64 n1)).setCell (p := ⟨w.heap.size, 2, none⟩) (Nat.le_refl _) (.slice ca cs.length ccap)).setCell (p := ⟨w.heap.size, 3, none⟩) (Nat.le_refl _) (.slice oa os.length ocap))
        have O6 := (ownsC_low (ownsC_low (ownsC_low (ownsC_low o5.out (b := w.heap.size) L1.out 0 (.int .i64 n0)) (b := w.heap.size) L1.out 1 (.int .i64 n1)) (b := w.heap.size) L1.out 2 (.slice ca cs.length ccap)) (b := w.heap.size) L1.out 3 (.slice oa os.length ocap))
        have N6 := (ownsN_low (ownsN_low (ownsN_low (ownsN_low n5.out (b := w.heap.size) L2.out 0 (.int .i64 n0)) (b := w.heap.size) L2.out 1 (.int .i64 n1)) (b := w.heap.size) L2.out 2 (.slice ca cs.length ccap)) (b := w.heap.size) L2.out 3 (.slice oa os.length ocap))
        have e0 := cell_of_row _ _ 0 _ _ _ r4
        have e1 := cell_of_row _ _ 1 _ _ _ r4
        have e2 := cell_of_row _ _ 2 _ _ _ r4
        have e3 := cell_of_row _ _ 3 _ _ _ r4
        simp at e0 e1 e2 e3
        refine bodyPost_ret (v := .tuple #[qV n0 n1 (.slice ca cs.length ccap) (.slice oa os.length ocap), .bool false]) ?_ rfl ?_
        · simp [results, Tryd.f65, go_sem, e0, e1, e2, e3, qV]
        · exact queryAns_any HO2.out HEQ.out (ownsC_up O6 (Nat.le_of_lt L1.out)) (ownsN_up N6 (Nat.le_of_lt L2.out)) HAP.out HL1.out HL3.out B6
      | true =>
        cases s1 with
        | false =>
          have HO2 : Hid ((pQ P).isSome = false) := Lib.hid (by rw [HOK.out]; rfl)
          clear HOK
          go_wp2
          generalize (w4.alloc (.cells #[.int .i64 n0, .int .i64 n1, .slice ca cs.length ccap, .slice oa os.length ocap] 46)) = W5 at *
          have r1 := heap_setCell_same W5 (w.heap.size) 0 _ _ (.int .i64 n0) HG5.out
          have r2 := heap_setCell_same _ (w.heap.size) 1 _ _ (.int .i64 n1) r1
          have r3 := heap_setCell_same _ (w.heap.size) 2 _ _ (.slice ca cs.length ccap) r2
          have r4 := heap_setCell_same _ (w.heap.size) 3 _ _ (.slice oa os.length ocap) r3
          have B6 := ((((D5.out.setCell (p := ⟨w.heap.size, 0, none⟩) (Nat.le_refl _) (.int .i64 n0)).setCell (p := ⟨w.heap.size, 1, none⟩) (Nat.le_refl _) (.int .i64 n1)).setCell (p := ⟨w.heap.size, 2, none⟩) (Nat.le_refl _) (.slice ca cs.length ccap)).setCell (p := ⟨w.heap.size, 3, none⟩) (Nat.le_refl _) (.slice oa os.length ocap))
          have O6 := (ownsC_low (ownsC_low (ownsC_low (ownsC_low o5.out (b := w.heap.size) L1.out 0 (.int .i64 n0)) (b := w.heap.size) L1.out 1 (.int .i64 n1)) (b := w.heap.size) L1.out 2 (.slice ca cs.length ccap)) (b := w.heap.size) L1.out 3 (.slice oa os.length ocap))
          have N6 := (ownsN_low (ownsN_low (ownsN_low (ownsN_low n5.out (b := w.heap.size) L2.out 0 (.int .i64 n0)) (b := w.heap.size) L2.out 1 (.int .i64 n1)) (b := w.heap.size) L2.out 2 (.slice ca cs.length ccap)) (b := w.heap.size) L2.out 3 (.slice oa os.length ocap))
          have e0 := cell_of_row _ _ 0 _ _ _ r4
          have e1 := cell_of_row _ _ 1 _ _ _ r4
          have e2 := cell_of_row _ _ 2 _ _ _ r4
          have e3 := cell_of_row _ _ 3 _ _ _ r4
          simp at e0 e1 e2 e3
          refine bodyPost_ret (v := .tuple #[qV n0 n1 (.slice ca cs.length ccap) (.slice oa os.length ocap), .bool false]) ?_ rfl ?_
          · simp [results, Tryd.f65, go_sem, e0, e1, e2, e3, qV]
          · exact queryAns_any HO2.out HEQ.out (ownsC_up O6 (Nat.le_of_lt L1.out)) (ownsN_up N6 (Nat.le_of_lt L2.out)) HAP.out HL1.out HL3.out B6
        | true =>
          have HO2 : Hid ((pQ P).isSome = s2) := Lib.hid (by rw [HOK.out]; cases s2 <;> rfl)
          clear HOK
          go_wp2
          generalize (w4.alloc (.cells #[.int .i64 n0, .int .i64 n1, .slice ca cs.length ccap, .slice oa os.length ocap] 46)) = W5 at *
          have r1 := heap_setCell_same W5 (w.heap.size) 0 _ _ (.int .i64 n0) HG5.out
          have r2 := heap_setCell_same _ (w.heap.size) 1 _ _ (.int .i64 n1) r1
          have r3 := heap_setCell_same _ (w.heap.size) 2 _ _ (.slice ca cs.length ccap) r2
          have r4 := heap_setCell_same _ (w.heap.size) 3 _ _ (.slice oa os.length ocap) r3
          have B6 := ((((D5.out.setCell (p := ⟨w.heap.size, 0, none⟩) (Nat.le_refl _) (.int .i64 n0)).setCell (p := ⟨w.heap.size, 1, none⟩) (Nat.le_refl _) (.int .i64 n1)).setCell (p := ⟨w.heap.size, 2, none⟩) (Nat.le_refl _) (.slice ca cs.length ccap)).setCell (p := ⟨w.heap.size, 3, none⟩) (Nat.le_refl _) (.slice oa os.length ocap))
          have O6 := (ownsC_low (ownsC_low (ownsC_low (ownsC_low o5.out (b := w.heap.size) L1.out 0 (.int .i64 n0)) (b := w.heap.size) L1.out 1 (.int .i64 n1)) (b := w.heap.size) L1.out 2 (.slice ca cs.length ccap)) (b := w.heap.size) L1.out 3 (.slice oa os.length ocap))
          have N6 := (ownsN_low (ownsN_low (ownsN_low (ownsN_low n5.out (b := w.heap.size) L2.out 0 (.int .i64 n0)) (b := w.heap.size) L2.out 1 (.int .i64 n1)) (b := w.heap.size) L2.out 2 (.slice ca cs.length ccap)) (b := w.heap.size) L2.out 3 (.slice oa os.length ocap))
          have e0 := cell_of_row _ _ 0 _ _ _ r4
          have e1 := cell_of_row _ _ 1 _ _ _ r4
          have e2 := cell_of_row _ _ 2 _ _ _ r4
          have e3 := cell_of_row _ _ 3 _ _ _ r4
          simp at e0 e1 e2 e3
          refine bodyPost_ret (v := .tuple #[qV n0 n1 (.slice ca cs.length ccap) (.slice oa os.length ocap), .bool s2]) ?_ rfl ?_
          · simp [results, Tryd.f65, go_sem, e0, e1, e2, e3, qV]
          · exact queryAns_any HO2.out HEQ.out (ownsC_up O6 (Nat.le_of_lt L1.out)) (ownsN_up N6 (Nat.le_of_lt L2.out)) HAP.out HL1.out HL3.out B6
  · have HF := Lib.hid (HWD.out ho)
    have ho' : (!((strB (P.getD m [])).toList == [111, 117, 116])) = true := by rw [em, Bool.not_eq_true', beq_eq_false_iff_ne]; exact ho
    clear ho em HGO HWD HQ3 hq2
    generalize strB (P.getD m []) = sm at *
    go_enter Tryd.func65, Tryd.ntmps65
    go_wp2
    generalize w.alloc (.cells #[.int .i64 0, .int .i64 0, .slice none 0 0, .slice none 0 0] 46) = W at *
    have e0 := cell_of_row W _ 0 _ _ _ g0
    have e1 := cell_of_row W _ 1 _ _ _ g0
    have e2 := cell_of_row W _ 2 _ _ _ g0
    have e3 := cell_of_row W _ 3 _ _ _ g0
    simp at e0 e1 e2 e3
    refine bodyPost_ret (v := .tuple #[qV 0 0 (.slice none 0 0) (.slice none 0 0), .bool false]) ?_ rfl ?_
    · simp [results, Tryd.f65, go_sem, e0, e1, e2, e3, qV]
    · exact queryAns_zero HF.out hb0
theorem split_any (l : List UInt8) (w : World) (hl : l.length ≤ 1048576) (hM : TabM w) :
    Calls Tryd.prog 66 #[.string (strB l), .string ⟨#[32]⟩] w fun e w' => e = .returned (.slice (some ⟨w.heap.size, 0, none⟩) (cutL 32 l).length (cutL 32 l).length) ∧ w' = w.alloc (.cells ((cutL 32 l).map (fun p => Value.string (strB p))).toArray 9) := by
  obtain ⟨m, hm⟩ := hM
  refine (Tryd.strings_Split (strB l) ⟨#[32]⟩ m w (by rw [strB_size]; omega) hm (by decide)).mono ?_
  rintro e w' ⟨rfl, rfl⟩
  have hc : Lib.countB (strB l) ⟨#[32]⟩ + 1 = (cutL 32 l).length := (split_len _ _ (Nat.lt_succ_self _)).symm
  have hs : Lib.splitB ⟨#[32]⟩ 0 (Lib.countB (strB l) ⟨#[32]⟩) (strB l) = (cutL 32 l).map strB := by
    have h1 := Lib.splitB_data ⟨#[32]⟩ 0 (Lib.countB (strB l) ⟨#[32]⟩) (strB l)
    have h2 : Lib.splitK (⟨#[32]⟩ : ByteArray).data.toList 0 (Lib.countB (strB l) ⟨#[32]⟩) (strB l).data.toList = cutL 32 l := split_cut 32 l
    rw [h2] at h1
    rw [← h1, List.map_map]
    conv => lhs; rw [← List.map_id (Lib.splitB ⟨#[32]⟩ 0 (Lib.countB (strB l) ⟨#[32]⟩) (strB l))]
    exact List.map_congr_left fun x _ => by cases x; simp [strB]
  refine ⟨by rw [hc], ?_⟩
  rw [hs, List.map_map]
  rfl
set_option maxHeartbeats 8000000 in
set_option maxRecDepth 100000 in
theorem implParseQuery (l : List UInt8) (w : World) (hl : l.length ≤ 1048576) (hT : Tab w) (hM : TabM w) :
    Calls Tryd.prog 26 #[.string (strB l)] w (ParAnsQ w (parQ l)) := by
  have HT := Lib.hid hT
  have HM := Lib.hid hM
  have HACC := Lib.hid (fun q => parQ_acc (l := l) (q := q))
  have HREJ := Lib.hid (parQ_rej (l := l))
  have hpl := cut_len 32 l
  have hp1 : ∀ j, ((cutL 32 l).getD j []).length ≤ 1048576 := fun j => Nat.le_trans (cut_piece 32 l j) hl
  have hp2 : 4 ≤ (cutL 32 l).length → ∀ j, ((cutL 32 l).getD j []).length ≤ 1048575 := fun h j => by have := cut_short (l := l) (b := 32) (by omega) j; omega
  have HS := Lib.hid (fun w h => split_any l w hl h)
  have hb0 : Below w.heap.size w (w.alloc (.cells #[.int .i64 0, .int .i64 0, .slice none 0 0, .slice none 0 0] 46)) := (Below.refl _ w).alloc (Nat.le_refl _) _
  have g0 := heap_alloc_new w (.cells #[.int .i64 0, .int .i64 0, .slice none 0 0, .slice none 0 0] 46)
  have hlt : w.heap.size < (w.alloc (.cells #[.int .i64 0, .int .i64 0, .slice none 0 0, .slice none 0 0] 46)).heap.size := by simp
  generalize parQ l = ans at *
  generalize cutL 32 l = P at *
  have HQ : Hid (∀ (w : World), TabM w → Tab w → Calls Tryd.prog 65 #[.slice (some ⟨w.heap.size, 0, none⟩) P.length P.length] (w.alloc (.cells (P.map (fun p => Value.string (strB p))).toArray 9)) (QueryAns (w.alloc (.cells (P.map (fun p => Value.string (strB p))).toArray 9)) (pQ P))) := Lib.hid (fun w hM hT => by
    have hb : Below w.heap.size w (w.alloc (.cells (P.map (fun p => Value.string (strB p))).toArray 9)) := (Below.refl _ w).alloc (Nat.le_refl _) _
    refine queryOf_any w.heap.size P.length P _ (fun j hj => ?_) (by simp) (by omega) (Nat.le_refl _) hp1 hp2 (hT.on hb) (hM.on hb)
    rw [cell_lit]
    simp [List.getD, hj])
  generalize strB l = sl at *
  clear hp1 hp2 hpl hT hM hl
  go_enter Tryd.func26, Tryd.ntmps26
  go_wp2_with fail
  generalize w.alloc (.cells #[.int .i64 0, .int .i64 0, .slice none 0 0, .slice none 0 0] 46) = W at *
  refine (HS.out _ (HM.out.on hb0)).mono ?_
  rintro e w1 ⟨rfl, hw1⟩
  have b1 : Below W.heap.size W w1 := by rw [hw1]; exact (Below.refl _ _).alloc (Nat.le_refl _) _
  have HQ1 := Lib.hid (HQ.out W (HM.out.on hb0) (HT.out.on hb0))
  rw [← hw1] at HQ1
  have c1 := hb0.trans (b1.mono hb0.size)
  have g1 := (b1.block w.heap.size hlt).trans g0
  have l1 := Nat.lt_of_lt_of_le hlt b1.size
  clear hw1 b1 HQ HS hb0 g0 hlt
  go_wp2_with fail
  refine HQ1.out.mono ?_
  rintro e w2 ⟨⟨n0, n1, cs, os⟩, cv, ov, rfl, oc, oo, hap, heq, hcl, hol, b2⟩
  simp only at oc oo hcl hol
  have c2 := c1.trans (b2.mono c1.size)
  have g2 := (b2.block w.heap.size l1).trans g1
  have l2 := Nat.lt_of_lt_of_le l1 b2.size
  obtain ⟨ca, ccap, rfl⟩ := ownsC_len oc
  obtain ⟨oa, ocap, rfl⟩ := ints_len (ownsN_ints oo)
  have hb3 : Below w2.heap.size w2 (w2.alloc (.cells #[.int .i64 n0, .int .i64 n1, .slice ca cs.length ccap, .slice oa os.length ocap] 46)) := (Below.refl _ _).alloc (Nat.le_refl _) _
  have g3 := (hb3.block w.heap.size l2).trans g2
  have c3 := c2.trans (hb3.mono c2.size)
  have q3 := heap_alloc_new w2 (.cells #[.int .i64 n0, .int .i64 n1, .slice ca cs.length ccap, .slice oa os.length ocap] 46)
  have HOC := Lib.hid (ownsC_below oc hb3)
  have HOO := Lib.hid (ownsN_below oo hb3)
  have HAP := Lib.hid hap
  have HEQ := Lib.hid heq
  have L1 := Lib.hid l1
  have y0 := (cell_of_row (w2.alloc (.cells #[.int .i64 n0, .int .i64 n1, .slice ca cs.length ccap, .slice oa os.length ocap] 46)) _ 0 _ _ _ q3).trans (show _ = some (Value.int .i64 n0) from rfl)
  have y1 := (cell_of_row (w2.alloc (.cells #[.int .i64 n0, .int .i64 n1, .slice ca cs.length ccap, .slice oa os.length ocap] 46)) _ 1 _ _ _ q3).trans (show _ = some (Value.int .i64 n1) from rfl)
  have y2 := (cell_of_row (w2.alloc (.cells #[.int .i64 n0, .int .i64 n1, .slice ca cs.length ccap, .slice oa os.length ocap] 46)) _ 2 _ _ _ q3).trans (show _ = some (Value.slice ca cs.length ccap) from rfl)
  have y3 := (cell_of_row (w2.alloc (.cells #[.int .i64 n0, .int .i64 n1, .slice ca cs.length ccap, .slice oa os.length ocap] 46)) _ 3 _ _ _ q3).trans (show _ = some (Value.slice oa os.length ocap) from rfl)
  have z0 := (cell_of_row (w2.alloc (.cells #[.int .i64 n0, .int .i64 n1, .slice ca cs.length ccap, .slice oa os.length ocap] 46)) _ 0 _ _ _ g3).trans (show _ = some (Value.int .i64 0) from rfl)
  have f0 := frozen_of_row (w2.alloc (.cells #[.int .i64 n0, .int .i64 n1, .slice ca cs.length ccap, .slice oa os.length ocap] 46)) _ 0 _ _ g3
  have z1 := (cell_of_row (w2.alloc (.cells #[.int .i64 n0, .int .i64 n1, .slice ca cs.length ccap, .slice oa os.length ocap] 46)) _ 1 _ _ _ g3).trans (show _ = some (Value.int .i64 0) from rfl)
  have f1 := frozen_of_row (w2.alloc (.cells #[.int .i64 n0, .int .i64 n1, .slice ca cs.length ccap, .slice oa os.length ocap] 46)) _ 1 _ _ g3
  have z2 := (cell_of_row (w2.alloc (.cells #[.int .i64 n0, .int .i64 n1, .slice ca cs.length ccap, .slice oa os.length ocap] 46)) _ 2 _ _ _ g3).trans (show _ = some (Value.slice none 0 0) from rfl)
  have f2 := frozen_of_row (w2.alloc (.cells #[.int .i64 n0, .int .i64 n1, .slice ca cs.length ccap, .slice oa os.length ocap] 46)) _ 2 _ _ g3
  have z3 := (cell_of_row (w2.alloc (.cells #[.int .i64 n0, .int .i64 n1, .slice ca cs.length ccap, .slice oa os.length ocap] 46)) _ 3 _ _ _ g3).trans (show _ = some (Value.slice none 0 0) from rfl)
  have f3 := frozen_of_row (w2.alloc (.cells #[.int .i64 n0, .int .i64 n1, .slice ca cs.length ccap, .slice oa os.length ocap] 46)) _ 3 _ _ g3
  have HG3 := Lib.hid g3
  have HC3 := Lib.hid c3
  have HQ3 := Lib.hid q3
  clear oc oo hap heq c1 g1 l1 c2 g2 b2 l2 hb3 g3 c3 q3
  cases hok : (pQ P).isSome with
  | false =>
    have HF : Hid (ans = (q0D, false)) := Lib.hid (HREJ.out (fun q hq => by rw [hq] at hok; exact Bool.noConfusion hok))
    clear hok HREJ HACC
    go_wp2
    generalize (w2.alloc (.cells #[.int .i64 n0, .int .i64 n1, .slice ca cs.length ccap, .slice oa os.length ocap] 46)) = W5 at *
    have r1 := heap_setCell_same W5 (w.heap.size) 0 _ _ (.int .i64 0) HG3.out
    have r2 := heap_setCell_same _ (w.heap.size) 1 _ _ (.int .i64 0) r1
    have r3 := heap_setCell_same _ (w.heap.size) 2 _ _ (.slice none 0 0) r2
    have r4 := heap_setCell_same _ (w.heap.size) 3 _ _ (.slice none 0 0) r3
    have B6 := ((((HC3.out.setCell (p := ⟨w.heap.size, 0, none⟩) (Nat.le_refl _) (.int .i64 0)).setCell (p := ⟨w.heap.size, 1, none⟩) (Nat.le_refl _) (.int .i64 0)).setCell (p := ⟨w.heap.size, 2, none⟩) (Nat.le_refl _) (.slice none 0 0)).setCell (p := ⟨w.heap.size, 3, none⟩) (Nat.le_refl _) (.slice none 0 0))
    have e0 := cell_of_row _ _ 0 _ _ _ r4
    have e1 := cell_of_row _ _ 1 _ _ _ r4
    have e2 := cell_of_row _ _ 2 _ _ _ r4
    have e3 := cell_of_row _ _ 3 _ _ _ r4
    simp at e0 e1 e2 e3
    refine bodyPost_ret (v := .tuple #[qV 0 0 (.slice none 0 0) (.slice none 0 0), .bool false]) ?_ rfl ?_
    · simp [results, Tryd.f26, go_sem, e0, e1, e2, e3, qV]
    · exact parAnsQ_no HF.out B6
  | true =>
    obtain ⟨q, hq⟩ := Option.isSome_iff_exists.1 hok
    have hqe := HEQ.out q hq
    subst hqe
    have HI := Lib.hid (fun w h g => implIsQuery n0 n1 (.slice ca cs.length ccap) (.slice oa os.length ocap) cs os w h hcl g hol)
    cases hqb : queryB n0 n1 cs os with
    | false =>
      have HF : Hid (ans = (q0D, false)) := Lib.hid (HREJ.out (fun q' hq' => by rw [hq] at hq'; have := Option.some.inj hq'; subst this; exact hqb))
      rw [hqb] at HI
      clear hok hq hqb HREJ HACC HEQ hcl hol
      go_wp2_with fail
      generalize (w2.alloc (.cells #[.int .i64 n0, .int .i64 n1, .slice ca cs.length ccap, .slice oa os.length ocap] 46)) = W5 at *
      refine (HI.out _ (ownsC_conds HOC.out) (ownsN_ints HOO.out)).mono ?_
      rintro e w6 ⟨rfl, b6⟩
      have c6 := HC3.out.trans (b6.mono HC3.out.size)
      have g6 := (b6.block w.heap.size (Array.getElem?_eq_some_iff.1 HG3.out).1).trans HG3.out
      clear y0 y1 y2 y3 z0 z1 z2 z3 f0 f1 f2 f3
      have z0 := (cell_of_row w6 _ 0 _ _ _ g6).trans (show _ = some (Value.int .i64 0) from rfl)
      have f0 := frozen_of_row w6 _ 0 _ _ g6
      have z1 := (cell_of_row w6 _ 1 _ _ _ g6).trans (show _ = some (Value.int .i64 0) from rfl)
      have f1 := frozen_of_row w6 _ 1 _ _ g6
      have z2 := (cell_of_row w6 _ 2 _ _ _ g6).trans (show _ = some (Value.slice none 0 0) from rfl)
      have f2 := frozen_of_row w6 _ 2 _ _ g6
      have z3 := (cell_of_row w6 _ 3 _ _ _ g6).trans (show _ = some (Value.slice none 0 0) from rfl)
      have f3 := frozen_of_row w6 _ 3 _ _ g6
      have HG6 := Lib.hid g6
      have HC6 := Lib.hid c6
      clear g6 c6 b6
      go_wp2
      have r1 := heap_setCell_same w6 (w.heap.size) 0 _ _ (.int .i64 0) HG6.out
      have r2 := heap_setCell_same _ (w.heap.size) 1 _ _ (.int .i64 0) r1
      have r3 := heap_setCell_same _ (w.heap.size) 2 _ _ (.slice none 0 0) r2
      have r4 := heap_setCell_same _ (w.heap.size) 3 _ _ (.slice none 0 0) r3
      have B6 := ((((HC6.out.setCell (p := ⟨w.heap.size, 0, none⟩) (Nat.le_refl _) (.int .i64 0)).setCell (p := ⟨w.heap.size, 1, none⟩) (Nat.le_refl _) (.int .i64 0)).setCell (p := ⟨w.heap.size, 2, none⟩) (Nat.le_refl _) (.slice none 0 0)).setCell (p := ⟨w.heap.size, 3, none⟩) (Nat.le_refl _) (.slice none 0 0))
      have e0 := cell_of_row _ _ 0 _ _ _ r4
      have e1 := cell_of_row _ _ 1 _ _ _ r4
      have e2 := cell_of_row _ _ 2 _ _ _ r4
      have e3 := cell_of_row _ _ 3 _ _ _ r4
      simp at e0 e1 e2 e3
      refine bodyPost_ret (v := .tuple #[qV 0 0 (.slice none 0 0) (.slice none 0 0), .bool false]) ?_ rfl ?_
      · simp [results, Tryd.f26, go_sem, e0, e1, e2, e3, qV]
      · exact parAnsQ_no HF.out B6
    | true =>
      have HF : Hid (ans = ((n0, n1, cs, os), true)) := Lib.hid (HACC.out _ hq hqb)
      rw [hqb] at HI
      clear hok hq hqb HREJ HACC HEQ hcl hol
      go_wp2_with fail
      generalize (w2.alloc (.cells #[.int .i64 n0, .int .i64 n1, .slice ca cs.length ccap, .slice oa os.length ocap] 46)) = W5 at *
      refine (HI.out _ (ownsC_conds HOC.out) (ownsN_ints HOO.out)).mono ?_
      rintro e w6 ⟨rfl, b6⟩
      have c6 := HC3.out.trans (b6.mono HC3.out.size)
      have g6 := (b6.block w.heap.size (Array.getElem?_eq_some_iff.1 HG3.out).1).trans HG3.out
      have k6 := (b6.block w2.heap.size (Array.getElem?_eq_some_iff.1 HQ3.out).1).trans HQ3.out
      have HO6 := Lib.hid (ownsC_below HOC.out b6)
      have HN6 := Lib.hid (ownsN_below HOO.out b6)
      clear y0 y1 y2 y3 z0 z1 z2 z3 f0 f1 f2 f3
      have z0 := (cell_of_row w6 _ 0 _ _ _ g6).trans (show _ = some (Value.int .i64 0) from rfl)
      have f0 := frozen_of_row w6 _ 0 _ _ g6
      have z1 := (cell_of_row w6 _ 1 _ _ _ g6).trans (show _ = some (Value.int .i64 0) from rfl)
      have f1 := frozen_of_row w6 _ 1 _ _ g6
      have z2 := (cell_of_row w6 _ 2 _ _ _ g6).trans (show _ = some (Value.slice none 0 0) from rfl)
      have f2 := frozen_of_row w6 _ 2 _ _ g6
      have z3 := (cell_of_row w6 _ 3 _ _ _ g6).trans (show _ = some (Value.slice none 0 0) from rfl)
      have f3 := frozen_of_row w6 _ 3 _ _ g6
      have y0 := (cell_of_row w6 _ 0 _ _ _ k6).trans (show _ = some (Value.int .i64 n0) from rfl)
      have y1 := (cell_of_row w6 _ 1 _ _ _ k6).trans (show _ = some (Value.int .i64 n1) from rfl)
      have y2 := (cell_of_row w6 _ 2 _ _ _ k6).trans (show _ = some (Value.slice ca cs.length ccap) from rfl)
      have y3 := (cell_of_row w6 _ 3 _ _ _ k6).trans (show _ = some (Value.slice oa os.length ocap) from rfl)
      have HG6 := Lib.hid g6
      have HC6 := Lib.hid c6
      clear g6 c6 b6 k6
      go_wp2
      have r1 := heap_setCell_same w6 (w.heap.size) 0 _ _ (.int .i64 n0) HG6.out
      have r2 := heap_setCell_same _ (w.heap.size) 1 _ _ (.int .i64 n1) r1
      have r3 := heap_setCell_same _ (w.heap.size) 2 _ _ (.slice ca cs.length ccap) r2
      have r4 := heap_setCell_same _ (w.heap.size) 3 _ _ (.slice oa os.length ocap) r3
      have B6 := ((((HC6.out.setCell (p := ⟨w.heap.size, 0, none⟩) (Nat.le_refl _) (.int .i64 n0)).setCell (p := ⟨w.heap.size, 1, none⟩) (Nat.le_refl _) (.int .i64 n1)).setCell (p := ⟨w.heap.size, 2, none⟩) (Nat.le_refl _) (.slice ca cs.length ccap)).setCell (p := ⟨w.heap.size, 3, none⟩) (Nat.le_refl _) (.slice oa os.length ocap))
      have O6 := (ownsC_low (ownsC_low (ownsC_low (ownsC_low HO6.out (b := w.heap.size) L1.out 0 (.int .i64 n0)) (b := w.heap.size) L1.out 1 (.int .i64 n1)) (b := w.heap.size) L1.out 2 (.slice ca cs.length ccap)) (b := w.heap.size) L1.out 3 (.slice oa os.length ocap))
      have N6 := (ownsN_low (ownsN_low (ownsN_low (ownsN_low HN6.out (b := w.heap.size) L1.out 0 (.int .i64 n0)) (b := w.heap.size) L1.out 1 (.int .i64 n1)) (b := w.heap.size) L1.out 2 (.slice ca cs.length ccap)) (b := w.heap.size) L1.out 3 (.slice oa os.length ocap))
      have e0 := cell_of_row _ _ 0 _ _ _ r4
      have e1 := cell_of_row _ _ 1 _ _ _ r4
      have e2 := cell_of_row _ _ 2 _ _ _ r4
      have e3 := cell_of_row _ _ 3 _ _ _ r4
      simp at e0 e1 e2 e3
      refine bodyPost_ret (v := .tuple #[qV n0 n1 (.slice ca cs.length ccap) (.slice oa os.length ocap), .bool true]) ?_ rfl ?_
      · simp [results, Tryd.f26, go_sem, e0, e1, e2, e3, qV]
      · exact parAnsQ_yes HF.out (ownsC_up O6 (Nat.le_of_lt L1.out)) (ownsN_up N6 (Nat.le_of_lt L1.out)) HAP.out B6
end Go.Proofs.YteelgogfpidcdaaDoor
