/-
  A range over strings.SplitSeq at a comma: the iterator keeps what is left of the text in a cell of its own; the loop's body is walked once.
-/
import Derived.RangeFuncNested
import Derived.RangeFuncBound
import Derived.RangeFuncCalls
import Derived.RangeFuncLeaves
import Derived.Shelf.Abstract
import Derived.Shelf.RegionOpen
import Derived.WalkKit
import Derived.OwnWalkIn
import Derived.TacticsInMore
import Derived.LoopNIn
import Derived.LoopIn
import Derived.Test.YtjmiihgaaagojaaDoorParPart
import Derived.Test.YtjmiihgaaagojaaDoorRowMark
import Derived.Test.YtjmiihgaaagojaaDoorShelf
namespace Go.Proofs.YtjmiihgaaagojaaDoor.Comma
open Go.RowKit Go.Shelf
attribute [local go_sem] Oper.semAt_some
set_option linter.unusedVariables false
/-- How long the text in the box is. -/
def boxLen (B : Nat) (W : World) : Nat := match W.cell? ⟨B, 0, none⟩ with
  | some (.string s) => s.size
  | _ => 0
theorem boxLen_of {B : Nat} {W : World} {t : TypeId} {s : ByteArray} (h : Boxed W B t (.string s)) : boxLen B W = s.size := by unfold boxLen; rw [h.cell]
/-! ### The law of the loop -/
/-- The blocks from B up to B + 5 lie as they lay. -/
def Stays (B : Nat) (W W' : World) : Prop := W.heap.size ≤ W'.heap.size ∧ ∀ j, B ≤ j → j < B + 5 → j < W.heap.size → W'.heap[j]? = W.heap[j]?
theorem stays_below {B : Nat} {W W' : World} (h : Below W.heap.size W W') : Stays B W W' := ⟨h.size, fun j _ _ hj => h.block j hj⟩
theorem Stays.trans {B : Nat} {W W' W'' : World} (h : Stays B W W') (h' : Stays B W' W'') : Stays B W W'' :=
  ⟨Nat.le_trans h.1 h'.1, fun j hb h5 hj => (h'.2 j hb h5 (Nat.lt_of_lt_of_le hj h.1)).trans (h.2 j hb h5 hj)⟩
theorem stays_set {B : Nat} {W : World} {b : Nat} (h : b < B) (v : Value) : Stays B W (W.setCell ⟨b, 0, none⟩ v) :=
  ⟨by simp [World.setCell], fun j hb _ _ => Below.heap_setCell W _ v j (fun e => by have : j = b := e; omega)⟩
theorem stays_hi {B : Nat} {W W' : World} {C : Nat} (h : Below C W W') (hC : B + 5 ≤ C) : Stays B W W' := ⟨h.size, fun j _ h5 _ => h.block j (by omega)⟩
theorem only_up {B hi : Nat} {W W' : World} (h : Below W.heap.size W W') : Only B hi W W' := ⟨h.os, h.tape, h.output, h.size, fun k hk _ => h.block k hk⟩
theorem only_set (B : Nat) (W : World) (v : Value) : Only B (B + 5) W (W.setCell ⟨B, 0, none⟩ v) := ⟨rfl, rfl, rfl, by simp [World.setCell], fun k _ hn => Below.heap_setCell W _ v k (by simp; omega)⟩
theorem only_put {B : Nat} (W : World) {l : Nat} {o : Obj} (o' : Obj) (h : W.heap[l]? = some o) (hl : B ≤ l) (h5 : l < B + 5) : Only B (B + 5) W (W.putObj l o') :=
  ⟨rfl, rfl, rfl, by simp, fun k _ hn => World.putObj_heap_other (by omega)⟩
/-- How a round's body may end. -/
def roundEnd (B : Nat) (I : Nat → World → Prop) (Ix : World → Prop) (k : Nat) (W : World) : Exit → Act → World → Prop
  | .normal, _, W' => Stays B W W' ∧ I (k + 1) W'
  | .ret, _, W' => Stays B W W' ∧ Ix W'
  | _, _, _ => False
theorem below_put {B : Nat} (W : World) {l : Nat} {o : Obj} (o' : Obj) (h : W.heap[l]? = some o) (hl : B ≤ l) : Below B W (W.putObj l o') :=
  ⟨rfl, rfl, rfl, by simp, fun k hk => World.putObj_heap_other (by omega)⟩
/-- What a call of the iterator asks of the rounds, and what it answers. -/
def SplitStops (n : Nat) (Bs Bp Bv : Nat) (P : List (List UInt8)) (s : List UInt8) : Prop :=
  ∀ (l : Nat) (J : Nat → World → Prop) (Jx : World → Prop),
    (∀ k W v, J k W → J k (W.setCell ⟨Bs, 0, none⟩ v)) →
    (∀ k W, J k W → Boxed W Bp 9 (.string ⟨#[44]⟩) ∧ Boxed W Bv 3 (.int .i64 0)) →
    (∀ (k : Nat) (W : World) (r : ByteArray), k < P.length → J k W → Boxed W Bs 9 (.string r) →
      YieldAt Fence.wide (n - 1) Tryd.prog l #[.string (strB (P.getD k []))] W fun e W' => (e = .returned (.bool true) ∧ J (k + 1) W' ∧ Boxed W' Bs 9 (.string r)) ∨ (e = .returned (.bool false) ∧ Jx W')) →
    ∀ W, J 0 W → Boxed W Bs 9 (.string (strB s)) →
    CallsIn Fence.wide n Tryd.prog 57 #[.func (.yield l) #[] #[], .pointer (some ⟨Bp, 0, none⟩), .pointer (some ⟨Bs, 0, none⟩), .pointer (some ⟨Bv, 0, none⟩)] W fun e W' => (∃ v, e = .returned v) ∧ (J P.length W' ∨ Jx W')
theorem rangeSplit {g : Operand} {ps : Array Tmp} {assign body : Code} {Q : Exit → Act → World → Prop} {a : Act} {w : World} {n : Nat} (h1 : 1 ≤ n) (B : Nat) (s : List UInt8)
    (hg : a.eval g = .func (.func 57) #[] #[.pointer (some ⟨B + 1, 0, none⟩), .pointer (some ⟨B, 0, none⟩), .pointer (some ⟨B + 2, 0, none⟩)])
    (hB : w.heap.size = B + 3) (hstops : SplitStops (n - 1) B (B + 1) (B + 2) (cutL 44 s) s)
    (hs : Boxed w B 9 (.string (strB s))) (hp : Boxed w (B + 1) 9 (.string ⟨#[44]⟩)) (hv : Boxed w (B + 2) 3 (.int .i64 0))
    (I : Nat → World → Prop) (Ix : World → Prop) (hI : ∀ k W W', I k W → Only B (B + 5) W W' → I k W') (hIx : ∀ W W', Ix W → Only B (B + 5) W W' → Ix W') (h0 : I 0 w)
    (a₁ : List UInt8 → Act) (hps : ps.size = 1)
    (hassign : ∀ (l : Nat) (x : List UInt8) (W : World) (K : Act → World → Prop), K (a₁ x) W →
      assign.wpIn (Fence.wide.inRound l) (n - 1 - 1) Tryd.prog (Exit.then K (fun _ _ _ => False)) { tmps := (ps.zip #[Value.string (strB x)]).foldl (fun t (p, v) => t.setIfInBounds p v) a.tmps, defers := [] } W)
    (hbody : ∀ (l k : Nat) (W : World), k < (cutL 44 s).length → B + 5 ≤ W.heap.size → I k W → body.wpIn (Fence.wide.inRound l) (n - 1 - 1) Tryd.prog (roundEnd B I Ix k W) (a₁ ((cutL 44 s).getD k [])) W)
    (hdone : ∀ (D : Nat) (W : World), B ≤ D → D < B + 5 → I (cutL 44 s).length W → W.heap[D]? = some (.deferred (some [])) → Q .normal { a with defers := { target := .collected D, args := #[] } :: a.defers } W)
    (hstop : ∀ (D : Nat) (W : World), B ≤ D → D < B + 5 → Ix W → W.heap[D]? = some (.deferred (some [])) → Code.ret.wpIn Fence.wide n Tryd.prog Q { a with defers := { target := .collected D, args := #[] } :: a.defers } W) :
    (Code.rangeFunc g ps assign body).wpIn Fence.wide n Tryd.prog Q a w := by
  refine wpIn_rangeFunc fun fn hfn => ?_
  let rec0 : LoopState → Option Code → Loop := fun st pe => { state := st, pending := pe, fn := fn, tmps := a.tmps, params := ps, assign := assign, body := body, defers := B + 3 }
  obtain ⟨rec, hrec⟩ : ∃ r, r = rec0 := ⟨_, rfl⟩
  have hst : ∀ st pe, (rec st pe).state = st := fun st pe => by rw [hrec]
  have hpe : ∀ st pe, (rec st pe).pending = pe := fun st pe => by rw [hrec]
  have hpa : ∀ st pe, (rec st pe).params = ps := fun st pe => by rw [hrec]
  -- the two blocks of the loop: what its rounds defer, and its record
  obtain ⟨W1, hW1⟩ : ∃ W1, (w.alloc (.deferred (some []))).alloc (.loop (rec .ready none)) = W1 := ⟨_, rfl⟩
  have hD1 : W1.heap[B + 3]? = some (.deferred (some [])) := by
    rw [← hW1, Below.heap_alloc _ _ _ (by simp; omega), ← hB]; exact World.alloc_heap_new w _
  have hL1 : W1.heap[B + 4]? = some (.loop (rec .ready none)) := by
    have := World.alloc_heap_new (w.alloc (.deferred (some []))) (.loop (rec .ready none))
    rw [World.size_alloc, hB] at this
    rw [← hW1]; exact this
  have hup : Below w.heap.size w W1 := by rw [← hW1]; exact ((Below.refl _ w).alloc (Nat.le_refl _) _).alloc (by simp) _
  have hs1 : Boxed W1 B 9 (.string (strB s)) := by rw [← hW1]; exact (hs.alloc _).alloc _
  have hp1 : Boxed W1 (B + 1) 9 (.string ⟨#[44]⟩) := by rw [← hW1]; exact (hp.alloc _).alloc _
  have hv1 : Boxed W1 (B + 2) 3 (.int .i64 0) := by rw [← hW1]; exact (hv.alloc _).alloc _
  have hI1 : I 0 W1 := hI 0 w W1 h0 (only_up hup)
  refine ⟨B + 4, [{ target := .collected (B + 3), args := #[] }], W1, { target := .fn (.func 57) #[.pointer (some ⟨B + 1, 0, none⟩), .pointer (some ⟨B, 0, none⟩), .pointer (some ⟨B + 2, 0, none⟩)], args := #[.func (.yield (B + 4)) #[] #[]] }, W1, 57,
    #[.func (.yield (B + 4)) #[] #[], .pointer (some ⟨B + 1, 0, none⟩), .pointer (some ⟨B, 0, none⟩), .pointer (some ⟨B + 2, 0, none⟩)], W1, ?_, ?_, ?_, ?_, fun _ => h1, ?_⟩
  · have := run_enterLoop_outer (P := Tryd.prog) (w := w) fn a.tmps ps assign body
    rw [hB] at this
    rw [← hW1, hrec]
    exact this
  · simp only [resolve, hg]
    simp [go_sem]
  · intro f' _; trivial
  · simp [invoke, go_sem]
  · refine (hstops (B + 4)
      (fun k W => (I k W ∧ Boxed W (B + 1) 9 (.string ⟨#[44]⟩) ∧ Boxed W (B + 2) 3 (.int .i64 0)) ∧ W.heap[B + 3]? = some (.deferred (some [])) ∧ W.heap[B + 4]? = some (.loop (rec .ready none)))
      (fun W => Ix W ∧ W.heap[B + 3]? = some (.deferred (some [])) ∧ W.heap[B + 4]? = some (.loop (rec .done (some .ret))))
      ?_ ?_ ?_ W1 ⟨⟨hI1, hp1, hv1⟩, hD1, hL1⟩ hs1).mono ?_
    · rintro k W v ⟨⟨hi, hp, hv⟩, hd, hl⟩
      have hne : ∀ j, j ≠ B → (W.setCell ⟨B, 0, none⟩ v).heap[j]? = W.heap[j]? := fun j hj => Below.heap_setCell W _ v j hj
      exact ⟨⟨hI k W _ hi (only_set B W v), (hne _ (by omega)).trans hp, (hne _ (by omega)).trans hv⟩, (hne _ (by omega)).trans hd, (hne _ (by omega)).trans hl⟩
    · rintro k W ⟨⟨_, hp, hv⟩, _⟩
      exact ⟨hp, hv⟩
    · -- one round
      rintro k W r hk ⟨⟨hi, hp, hv⟩, hd, hl⟩ hbs
      have hy := run_yield (P := Tryd.prog) (args := #[Value.string (strB ((cutL 44 s).getD k []))]) hl (by rw [hpa, hps]; rfl)
      rw [hrec] at hy
      refine ⟨fn, _, assign, body, hy, roundIn_of_wpIn hfn (hassign _ _ W _ ⟨_, run_beginRound hl (hst _ _), ?_⟩)⟩
      have e2 : ({ rec .ready none with state := .busy } : Loop) = rec .busy none := by rw [hrec]
      rw [e2]
      obtain ⟨W2, hW2⟩ : ∃ W2, W.putObj (B + 4) (.loop (rec .busy none)) = W2 := ⟨_, rfl⟩
      rw [hW2]
      have hlt : B + 4 < W.heap.size := (Array.getElem?_eq_some_iff.1 hl).1
      have hsz : W2.heap.size = W.heap.size := by rw [← hW2]; exact World.putObj_size
      have hne : ∀ j, j ≠ B + 4 → W2.heap[j]? = W.heap[j]? := fun j hj => by rw [← hW2]; exact World.putObj_heap_other hj
      have hl2 : W2.heap[B + 4]? = some (.loop (rec .busy none)) := by rw [← hW2]; exact World.putObj_heap_same hlt
      have hi2 : I k W2 := hI k W W2 hi (by rw [← hW2]; exact only_put W _ hl (by omega) (by omega))
      refine wpIn_mono (hbody _ k W2 hk (by omega) hi2) ?_
      rintro e a3 W3 hq
      have fin : ∀ (jump : Option Code), Stays B W2 W3 → ∃ W4, (Instr.endRound (B + 4) jump).run Tryd.prog W3 = .ok (.bool jump.isNone) W4 ∧ Only B (B + 5) W3 W4 ∧ (∀ j, B ≤ j → j < B + 4 → W4.heap[j]? = W.heap[j]?) ∧ W4.heap[B + 4]? = some (.loop (rec (if jump.isNone then .ready else .done) jump)) := fun jump h3 => by
        have hl3 : W3.heap[B + 4]? = some (.loop (rec .busy none)) := (h3.2 _ (by omega) (by omega) (by omega)).trans hl2
        have := run_endRound (P := Tryd.prog) jump hl3
        have e3 : ({ rec .busy none with state := if jump.isNone then .ready else .done, pending := jump } : Loop) = rec (if jump.isNone then .ready else .done) jump := by rw [hrec]
        rw [e3] at this
        exact ⟨_, this, only_put W3 _ hl3 (by omega) (by omega), fun j hb hj => (World.putObj_heap_other (by omega)).trans ((h3.2 j hb (by omega) (by omega)).trans (hne j (by omega))), World.putObj_heap_same (Array.getElem?_eq_some_iff.1 hl3).1⟩
      cases e with
      | normal =>
        obtain ⟨W4, hr, hb4, hj4, hl4⟩ := fin none hq.1
        exact ⟨_, W4, hr, .inl ⟨rfl, ⟨⟨hI _ W3 W4 hq.2 hb4, (hj4 _ (by omega) (by omega)).trans hp, (hj4 _ (by omega) (by omega)).trans hv⟩, (hj4 _ (by omega) (by omega)).trans hd, hl4⟩, (hj4 _ (by omega) (by omega)).trans hbs⟩⟩
      | ret =>
        obtain ⟨W4, hr, hb4, hj4, hl4⟩ := fin (some .ret) hq.1
        exact ⟨_, W4, hr, .inr ⟨rfl, hIx W3 W4 hq.2 hb4, (hj4 _ (by omega) (by omega)).trans hd, hl4⟩⟩
      | exit id => exact hq.elim
      | goto t => exact hq.elim
      | panic ch => exact hq.elim
      | outgrown => exact hq.elim
    · -- behind the iterator
      rintro e W2 ⟨⟨v, rfl⟩, (⟨⟨hi, _, _⟩, hd, hl⟩ | ⟨hi, hd, hl⟩)⟩
      · have := run_endLoop (P := Tryd.prog) hl (by rw [hst]; simp)
        rw [hpe] at this
        exact ⟨none, _, this, hdone (B + 3) _ (by omega) (by omega) (hI _ _ _ hi (only_put W2 _ hl (by omega) (by omega))) ((World.putObj_heap_other (by omega)).trans hd)⟩
      · have := run_endLoop (P := Tryd.prog) hl (by rw [hst]; simp)
        rw [hpe] at this
        exact ⟨some .ret, _, this, hstop (B + 3) _ (by omega) (by omega) (hIx _ _ hi (only_put W2 _ hl (by omega) (by omega))) ((World.putObj_heap_other (by omega)).trans hd)⟩
/-! ### The iterator -/
theorem frozen_of {B : Nat} {W : World} {t : TypeId} {v : Value} (h : Boxed W B t v) : W.frozen? ⟨B, 0, none⟩ = false := h.frozen
set_option maxHeartbeats 4000000 in
set_option maxRecDepth 100000 in
theorem splitStops (n Bs Bp Bv : Nat) (hn : 1 ≤ n) (s : List UInt8) (hl : s.length ≤ 1048576) : SplitStops n Bs Bp Bv (cutL 44 s) s := by
  intro l J Jx hJs hbox hY W h0 hs
  have HL := Lib.hid hl
  clear hl
  generalize hPP : cutL 44 s = P at *
  have HP := Lib.hid hPP
  clear hPP
  refine callsIn_of_wp Tryd.func57 rfl trivial ?_ rfl
  simp only [Tryd.ntmps57, List.size_toArray, List.length_cons, List.length_nil, Nat.reduceAdd, Nat.reduceSub, Array.replicate_succ, Array.replicate_zero, List.push_toArray, List.append_toArray, List.nil_append, List.cons_append]
  have c1 := (hbox 0 W h0).1.cell
  have hP0 := cut_pos 44 s
  have hPl := cut_len 44 s
  rw [HP.out] at hP0 hPl
  gi_wp2
  clear c1
  gi_loopw [7] (fun _ wr => ∃ (k : Nat) (r : List UInt8), k < P.length ∧ J k wr ∧ Boxed wr Bs 9 (.string (strB r)) ∧ r.length ≤ 1048576 ∧ Hid (P.drop k = cutL 44 r)) (fun _ wr => boxLen Bs wr)
  case atStart => exact ⟨0, s, hP0, h0, hs, HL.out, Lib.hid HP.out.symm⟩
  case round =>
    obtain ⟨k, r, hk, hj, hb, hrl, hcut⟩ := hrel
    clear h0 hs hP0 hPl
    have c1 := (hbox k _ hj).1.cell
    have c3 := (hbox k _ hj).2.cell
    have c2 := hb.cell
    rcases index_cases r 44 with ⟨hno, hi⟩ | ⟨a, b, hab, ha, hi⟩
    · have HI := Lib.hid (Tryd.strings_Index_one (strB r) 44 wr)
      have hi' : Lib.indexByte (strB r).data.toList 44 = -1 := hi
      rw [hi'] at HI
      have hd := hcut.out
      rw [cutL_no hno] at hd
      have HK : Hid (k + 1 = P.length) := Lib.hid (by have := congrArg List.length hd; simp at this; omega)
      have hg : P.getD k [] = r := by
        rw [List.drop_eq_getElem_cons hk] at hd
        have := (List.cons.inj hd).1
        rw [← this]; simp [List.getD, hk]
      obtain ⟨fn, tmps, assign, body, hy, hR⟩ := hY k _ _ hk hj hb
      rw [hg] at hy
      clear hi hi' hno hd hg hcut hY hj
      generalize strB r = sr at *
      gi_wp2_with (refine ⟨trivial, ?_⟩; gi_at_call 59; refine (callsIn_wide.2 HI.out).mono ?_; rintro e w' ⟨rfl, rfl⟩)
      refine hR.mono ?_
      rintro e W3 (⟨rfl, hJ3, _⟩ | ⟨rfl, hJx3⟩)
      · gi_wp2
        go_end0
        exact ⟨⟨_, rfl⟩, .inl (by rw [← HK.out]; exact hJ3)⟩
      · gi_wp2
        go_end0
        exact ⟨⟨_, rfl⟩, .inr hJx3⟩
    · subst hab
      have HI := Lib.hid (Tryd.strings_Index_one (strB (a ++ 44 :: b)) 44 wr)
      have hi' : Lib.indexByte (strB (a ++ 44 :: b)).data.toList 44 = (a.length : Int) := hi
      rw [hi'] at HI
      have hd := hcut.out
      rw [cutL_app b ha] at hd
      have hd2 : P.drop (k + 1) = cutL 44 b := by
        rw [List.drop_eq_getElem_cons hk] at hd
        exact (List.cons.inj hd).2
      have hk2 : k + 1 < P.length := by
        have := congrArg List.length hd2
        have h2 := cut_pos 44 b
        rw [List.length_drop] at this
        omega
      have HD2 := Lib.hid hd2
      have hg : P.getD k [] = a := by
        rw [List.drop_eq_getElem_cons hk] at hd
        have := (List.cons.inj hd).1
        rw [← this]; simp [List.getD, hk]
      obtain ⟨fn, tmps, assign, body, hy, hR⟩ := hY k _ _ hk hj hb
      have hsz : ((strB (a ++ 44 :: b)).size : Int) = (a.length : Int) + 1 + (b.length : Int) := by rw [strB_size]; simp; omega
      have hszn : (strB (a ++ 44 :: b)).size = a.length + 1 + b.length := by rw [strB_size]; simp; omega
      have HSZ := Lib.hid hszn
      have hbl : b.length ≤ 1048576 := by simp at hrl; omega
      have hal : (a.length : Int) ≤ 1048576 := by simp at hrl; omega
      have H1 := strB_take a (44 :: b)
      have H2 := Lib.hid (strB_drop a 44 b)
      have hs2 : (strB (a ++ 44 :: b)).size = (a ++ 44 :: b).length := strB_size _
      rw [← hs2] at H2
      rw [hg, ← H1] at hy
      clear hi hi' hd hd2 hg hcut hj hszn hs2 H1 hY hrl
      generalize strB (a ++ 44 :: b) = sr at *
      have x0 : (0 : Int) ≤ (a.length : Int) := by omega
      have x3 : (a.length : Int) + 1 ≤ (sr.size : Int) := by omega
      have x4 : (a.length : Int) ≤ (sr.size : Int) := by omega
      have x5 : ((a.length : Int) + 1).toNat = a.length + 1 := by omega
      gi_wp2_with (refine ⟨trivial, ?_⟩; gi_at_call 59; refine (callsIn_wide.2 HI.out).mono ?_; rintro e w' ⟨rfl, rfl⟩)
      refine hR.mono ?_
      rintro e W3 (⟨rfl, hJ3, hb3⟩ | ⟨rfl, hJx3⟩)
      · have d1 := (hbox _ _ hJ3).1.cell
        have d2 := hb3.cell
        have d4 := hb3.frozen
        clear c1 c2 c3
        gi_wp2
        exact ⟨⟨k + 1, b, hk2, hJs _ _ _ hJ3, by rw [H2.out]; exact hb3.set _, hbl, HD2⟩, by rw [H2.out, boxLen_of (hb3.set _), boxLen_of hb, strB_size, HSZ.out]; omega⟩
      · gi_wp2
        refine bodyPost_ret (results_none rfl _ _ _) rfl ?_
        exact ⟨⟨_, rfl⟩, .inr hJx3⟩
/-! ### The iterator's making -/
set_option maxHeartbeats 1000000 in
theorem splitSeq1 (s p : ByteArray) (w : World) : Calls Tryd.prog 48 #[.string s, .string p, .int .i64 0] w fun e w' => e = .returned (.func (.func 57) #[] #[.pointer (some ⟨w.heap.size + 1, 0, none⟩), .pointer (some ⟨w.heap.size, 0, none⟩), .pointer (some ⟨w.heap.size + 2, 0, none⟩)]) ∧ w' = ((w.alloc (.cells #[.string s] 9)).alloc (.cells #[.string p] 9)).alloc (.cells #[.int .i64 0] 3) := by
  go_enter Tryd.func48, Tryd.ntmps48
  go_wp2
  go_ret
  exact ⟨rfl, rfl⟩
set_option maxHeartbeats 1000000 in
theorem splitSeq0 (s p : ByteArray) (w : World) : Calls Tryd.prog 39 #[.string s, .string p] w fun e w' => e = .returned (.func (.func 57) #[] #[.pointer (some ⟨w.heap.size + 1, 0, none⟩), .pointer (some ⟨w.heap.size, 0, none⟩), .pointer (some ⟨w.heap.size + 2, 0, none⟩)]) ∧ w' = ((w.alloc (.cells #[.string s] 9)).alloc (.cells #[.string p] 9)).alloc (.cells #[.int .i64 0] 3) := by
  have H := Lib.hid (splitSeq1 s p w)
  go_enter Tryd.func39, Tryd.ntmps39
  go_wp2_with fail
  refine H.out.mono ?_
  rintro e w1 ⟨rfl, rfl⟩
  go_wp2
  go_ret
  exact ⟨rfl, rfl⟩
end Go.Proofs.YtjmiihgaaagojaaDoor.Comma
