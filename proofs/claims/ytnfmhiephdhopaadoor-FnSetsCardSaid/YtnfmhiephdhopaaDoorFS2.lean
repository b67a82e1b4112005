/-
  Texts of the proof, merged: Split, ParMsk, ParSet, ParSetImpl, SetsLaw, CodeOpen.
-/
import Derived.Test.YtnfmhiephdhopaaDoorFS1
import Derived.RangeFuncNested
import Derived.RangeFuncBound
import Derived.RangeFuncCalls
import Derived.RangeFuncLeaves
import Derived.Shelf.Abstract
import Derived.Shelf.RegionOpen
import Derived.WalkKit
import Derived.OwnWalkIn
import Derived.TacticsInMore
import Derived.LoopNIn
import Derived.LoopIn
import Derived.ProofKit
import Derived.OpenShut
import Derived.Carry
namespace Go.Proofs.YtnfmhiephdhopaaDoor
open Go.RowKit Go.Shelf
attribute [local go_sem] Oper.semAt_some
set_option linter.unusedVariables false
/-- How long the text in the box is. -/
def boxLen (B : Nat) (W : World) : Nat := match W.cell? ⟨B, 0, none⟩ with
  | some (.string s) => s.size
  | _ => 0
theorem boxLen_of {B : Nat} {W : World} {t : TypeId} {s : ByteArray} (h : Boxed W B t (.string s)) : boxLen B W = s.size := by unfold boxLen; rw [h.cell]
/-! ### The law of the loop -/
/-- All blocks from B on lie as they lay. -/
def Stays (B : Nat) (W W' : World) : Prop := W.heap.size ≤ W'.heap.size ∧ ∀ j, B ≤ j → j < W.heap.size → W'.heap[j]? = W.heap[j]?
theorem stays_below {B : Nat} {W W' : World} (h : Below W.heap.size W W') : Stays B W W' := ⟨h.size, fun j _ hj => h.block j hj⟩
theorem Stays.trans {B : Nat} {W W' W'' : World} (h : Stays B W W') (h' : Stays B W' W'') : Stays B W W'' :=
  ⟨Nat.le_trans h.1 h'.1, fun j hb hj => (h'.2 j hb (Nat.lt_of_lt_of_le hj h.1)).trans (h.2 j hb hj)⟩
theorem stays_set {B : Nat} {W : World} {b : Nat} (h : b < B) (v : Value) : Stays B W (W.setCell ⟨b, 0, none⟩ v) :=
  ⟨by simp [World.setCell], fun j hb _ => Below.heap_setCell W _ v j (fun e => by have : j = b := e; omega)⟩
/-- How a round's body may end. -/
def roundEnd (B : Nat) (I : Nat → World → Prop) (Ix : World → Prop) (k : Nat) (W : World) : Exit → Act → World → Prop
  | .normal, _, W' => Stays B W W' ∧ I (k + 1) W'
  | .ret, _, W' => Stays B W W' ∧ Ix W'
  | _, _, _ => False
theorem below_put {B : Nat} (W : World) {l : Nat} {o : Obj} (o' : Obj) (h : W.heap[l]? = some o) (hl : B ≤ l) : Below B W (W.putObj l o') :=
  ⟨rfl, rfl, rfl, by simp, fun k hk => World.putObj_heap_other (by omega)⟩
/-- What a call of the iterator asks of the rounds, and what it answers. -/
def SplitStops (n : Nat) (Bs Bp Bv : Nat) (P : List (List UInt8)) (s : List UInt8) : Prop :=
  ∀ (l : Nat) (J : Nat → World → Prop) (Jx : World → Prop),
    (∀ k W v, J k W → J k (W.setCell ⟨Bs, 0, none⟩ v)) →
    (∀ k W, J k W → Boxed W Bp 9 (.string ⟨#[32]⟩) ∧ Boxed W Bv 3 (.int .i64 0)) →
    (∀ (k : Nat) (W : World) (r : ByteArray), k < P.length → J k W → Boxed W Bs 9 (.string r) →
      YieldAt Fence.wide (n - 1) Tryd.prog l #[.string (strB (P.getD k []))] W fun e W' => (e = .returned (.bool true) ∧ J (k + 1) W' ∧ Boxed W' Bs 9 (.string r)) ∨ (e = .returned (.bool false) ∧ Jx W')) →
    ∀ W, J 0 W → Boxed W Bs 9 (.string (strB s)) →
    CallsIn Fence.wide n Tryd.prog 65 #[.func (.yield l) #[] #[], .pointer (some ⟨Bp, 0, none⟩), .pointer (some ⟨Bs, 0, none⟩), .pointer (some ⟨Bv, 0, none⟩)] W fun e W' => (∃ v, e = .returned v) ∧ (J P.length W' ∨ Jx W')
theorem rangeSplit {g : Operand} {ps : Array Tmp} {assign body : Code} {Q : Exit → Act → World → Prop} {a : Act} {w : World} {n : Nat} (h1 : 1 ≤ n) (B : Nat) (s : List UInt8)
    (hg : a.eval g = .func (.func 65) #[] #[.pointer (some ⟨B + 1, 0, none⟩), .pointer (some ⟨B, 0, none⟩), .pointer (some ⟨B + 2, 0, none⟩)])
    (hB : w.heap.size = B + 3) (hstops : SplitStops (n - 1) B (B + 1) (B + 2) (cutL 32 s) s)
    (hs : Boxed w B 9 (.string (strB s))) (hp : Boxed w (B + 1) 9 (.string ⟨#[32]⟩)) (hv : Boxed w (B + 2) 3 (.int .i64 0))
    (I : Nat → World → Prop) (Ix : World → Prop) (hI : ∀ k W W', I k W → Below B W W' → I k W') (hIx : ∀ W W', Ix W → Below B W W' → Ix W') (h0 : I 0 w)
    (a₁ : List UInt8 → Act) (hps : ps.size = 1)
    (hassign : ∀ (l : Nat) (x : List UInt8) (W : World) (K : Act → World → Prop), K (a₁ x) W →
      assign.wpIn (Fence.wide.inRound l) (n - 1 - 1) Tryd.prog (Exit.then K (fun _ _ _ => False)) { tmps := (ps.zip #[Value.string (strB x)]).foldl (fun t (p, v) => t.setIfInBounds p v) a.tmps, defers := [] } W)
    (hbody : ∀ (l k : Nat) (W : World), k < (cutL 32 s).length → I k W → body.wpIn (Fence.wide.inRound l) (n - 1 - 1) Tryd.prog (roundEnd B I Ix k W) (a₁ ((cutL 32 s).getD k [])) W)
    (hdone : ∀ (D : Nat) (W : World), B ≤ D → I (cutL 32 s).length W → W.heap[D]? = some (.deferred (some [])) → Q .normal { a with defers := { target := .collected D, args := #[] } :: a.defers } W)
    (hstop : ∀ (D : Nat) (W : World), B ≤ D → Ix W → W.heap[D]? = some (.deferred (some [])) → Code.ret.wpIn Fence.wide n Tryd.prog Q { a with defers := { target := .collected D, args := #[] } :: a.defers } W) :
    (Code.rangeFunc g ps assign body).wpIn Fence.wide n Tryd.prog Q a w := by
  refine wpIn_rangeFunc fun fn hfn => ?_
  let rec0 : LoopState → Option Code → Loop := fun st pe => { state := st, pending := pe, fn := fn, tmps := a.tmps, params := ps, assign := assign, body := body, defers := B + 3 }
  obtain ⟨rec, hrec⟩ : ∃ r, r = rec0 := ⟨_, rfl⟩
  have hst : ∀ st pe, (rec st pe).state = st := fun st pe => by rw [hrec]
  have hpe : ∀ st pe, (rec st pe).pending = pe := fun st pe => by rw [hrec]
  have hpa : ∀ st pe, (rec st pe).params = ps := fun st pe => by rw [hrec]
  -- the two blocks of the loop: what its rounds defer, and its record
  obtain ⟨W1, hW1⟩ : ∃ W1, (w.alloc (.deferred (some []))).alloc (.loop (rec .ready none)) = W1 := ⟨_, rfl⟩
  have hD1 : W1.heap[B + 3]? = some (.deferred (some [])) := by
    rw [← hW1, Below.heap_alloc _ _ _ (by simp; omega), ← hB]; exact World.alloc_heap_new w _
  have hL1 : W1.heap[B + 4]? = some (.loop (rec .ready none)) := by
    have := World.alloc_heap_new (w.alloc (.deferred (some []))) (.loop (rec .ready none))
    rw [World.size_alloc, hB] at this
    rw [← hW1]; exact this
  have hup : Below w.heap.size w W1 := by rw [← hW1]; exact ((Below.refl _ w).alloc (Nat.le_refl _) _).alloc (by simp) _
  have hs1 : Boxed W1 B 9 (.string (strB s)) := by rw [← hW1]; exact (hs.alloc _).alloc _
  have hp1 : Boxed W1 (B + 1) 9 (.string ⟨#[32]⟩) := by rw [← hW1]; exact (hp.alloc _).alloc _
  have hv1 : Boxed W1 (B + 2) 3 (.int .i64 0) := by rw [← hW1]; exact (hv.alloc _).alloc _
  have hI1 : I 0 W1 := hI 0 w W1 h0 (hup.mono (by omega))
  refine ⟨B + 4, [{ target := .collected (B + 3), args := #[] }], W1, { target := .fn (.func 65) #[.pointer (some ⟨B + 1, 0, none⟩), .pointer (some ⟨B, 0, none⟩), .pointer (some ⟨B + 2, 0, none⟩)], args := #[.func (.yield (B + 4)) #[] #[]] }, W1, 65,
    #[.func (.yield (B + 4)) #[] #[], .pointer (some ⟨B + 1, 0, none⟩), .pointer (some ⟨B, 0, none⟩), .pointer (some ⟨B + 2, 0, none⟩)], W1, ?_, ?_, ?_, ?_, fun _ => h1, ?_⟩
  · have := run_enterLoop_outer (P := Tryd.prog) (w := w) fn a.tmps ps assign body
    rw [hB] at this
    rw [← hW1, hrec]
    exact this
  · simp only [resolve, hg]
    simp [go_sem]
  · intro f' _; trivial
  · simp [invoke, go_sem]
  · refine (hstops (B + 4)
      (fun k W => (I k W ∧ Boxed W (B + 1) 9 (.string ⟨#[32]⟩) ∧ Boxed W (B + 2) 3 (.int .i64 0)) ∧ W.heap[B + 3]? = some (.deferred (some [])) ∧ W.heap[B + 4]? = some (.loop (rec .ready none)))
      (fun W => Ix W ∧ W.heap[B + 3]? = some (.deferred (some [])) ∧ W.heap[B + 4]? = some (.loop (rec .done (some .ret))))
      ?_ ?_ ?_ W1 ⟨⟨hI1, hp1, hv1⟩, hD1, hL1⟩ hs1).mono ?_
    · rintro k W v ⟨⟨hi, hp, hv⟩, hd, hl⟩
      have hne : ∀ j, j ≠ B → (W.setCell ⟨B, 0, none⟩ v).heap[j]? = W.heap[j]? := fun j hj => Below.heap_setCell W _ v j hj
      exact ⟨⟨hI k W _ hi ((Below.refl B W).setCell (p := ⟨B, 0, none⟩) (Nat.le_refl _) v), (hne _ (by omega)).trans hp, (hne _ (by omega)).trans hv⟩, (hne _ (by omega)).trans hd, (hne _ (by omega)).trans hl⟩
    · rintro k W ⟨⟨_, hp, hv⟩, _⟩
      exact ⟨hp, hv⟩
    · -- one round
      rintro k W r hk ⟨⟨hi, hp, hv⟩, hd, hl⟩ hbs
      have hy := run_yield (P := Tryd.prog) (args := #[Value.string (strB ((cutL 32 s).getD k []))]) hl (by rw [hpa, hps]; rfl)
      rw [hrec] at hy
      refine ⟨fn, _, assign, body, hy, roundIn_of_wpIn hfn (hassign _ _ W _ ⟨_, run_beginRound hl (hst _ _), ?_⟩)⟩
      have e2 : ({ rec .ready none with state := .busy } : Loop) = rec .busy none := by rw [hrec]
      rw [e2]
      obtain ⟨W2, hW2⟩ : ∃ W2, W.putObj (B + 4) (.loop (rec .busy none)) = W2 := ⟨_, rfl⟩
      rw [hW2]
      have hlt : B + 4 < W.heap.size := (Array.getElem?_eq_some_iff.1 hl).1
      have hsz : W2.heap.size = W.heap.size := by rw [← hW2]; exact World.putObj_size
      have hne : ∀ j, j ≠ B + 4 → W2.heap[j]? = W.heap[j]? := fun j hj => by rw [← hW2]; exact World.putObj_heap_other hj
      have hl2 : W2.heap[B + 4]? = some (.loop (rec .busy none)) := by rw [← hW2]; exact World.putObj_heap_same hlt
      have hi2 : I k W2 := hI k W W2 hi (by rw [← hW2]; exact below_put W _ hl (by omega))
      refine wpIn_mono (hbody _ k W2 hk hi2) ?_
      rintro e a3 W3 hq
      have fin : ∀ (jump : Option Code), Stays B W2 W3 → ∃ W4, (Instr.endRound (B + 4) jump).run Tryd.prog W3 = .ok (.bool jump.isNone) W4 ∧ Below B W3 W4 ∧ (∀ j, B ≤ j → j < B + 4 → W4.heap[j]? = W.heap[j]?) ∧ W4.heap[B + 4]? = some (.loop (rec (if jump.isNone then .ready else .done) jump)) := fun jump h3 => by
        have hl3 : W3.heap[B + 4]? = some (.loop (rec .busy none)) := (h3.2 _ (by omega) (by omega)).trans hl2
        have := run_endRound (P := Tryd.prog) jump hl3
        have e3 : ({ rec .busy none with state := if jump.isNone then .ready else .done, pending := jump } : Loop) = rec (if jump.isNone then .ready else .done) jump := by rw [hrec]
        rw [e3] at this
        exact ⟨_, this, below_put W3 _ hl3 (by omega), fun j hb hj => (World.putObj_heap_other (by omega)).trans ((h3.2 j hb (by omega)).trans (hne j (by omega))), World.putObj_heap_same (Array.getElem?_eq_some_iff.1 hl3).1⟩
      cases e with
      | normal =>
        obtain ⟨W4, hr, hb4, hj4, hl4⟩ := fin none hq.1
        exact ⟨_, W4, hr, .inl ⟨rfl, ⟨⟨hI _ W3 W4 hq.2 hb4, (hj4 _ (by omega) (by omega)).trans hp, (hj4 _ (by omega) (by omega)).trans hv⟩, (hj4 _ (by omega) (by omega)).trans hd, hl4⟩, (hj4 _ (by omega) (by omega)).trans hbs⟩⟩
      | ret =>
        obtain ⟨W4, hr, hb4, hj4, hl4⟩ := fin (some .ret) hq.1
        exact ⟨_, W4, hr, .inr ⟨rfl, hIx W3 W4 hq.2 hb4, (hj4 _ (by omega) (by omega)).trans hd, hl4⟩⟩
      | exit id => exact hq.elim
      | goto t => exact hq.elim
      | panic ch => exact hq.elim
      | outgrown => exact hq.elim
    · -- behind the iterator
      rintro e W2 ⟨⟨v, rfl⟩, (⟨⟨hi, _, _⟩, hd, hl⟩ | ⟨hi, hd, hl⟩)⟩
      · have := run_endLoop (P := Tryd.prog) hl (by rw [hst]; simp)
        rw [hpe] at this
        exact ⟨none, _, this, hdone (B + 3) _ (by omega) (hI _ _ _ hi (below_put W2 _ hl (by omega))) ((World.putObj_heap_other (by omega)).trans hd)⟩
      · have := run_endLoop (P := Tryd.prog) hl (by rw [hst]; simp)
        rw [hpe] at this
        exact ⟨some .ret, _, this, hstop (B + 3) _ (by omega) (hIx _ _ hi (below_put W2 _ hl (by omega))) ((World.putObj_heap_other (by omega)).trans hd)⟩
/-! ### The iterator -/
set_option maxHeartbeats 4000000 in
set_option maxRecDepth 100000 in
theorem splitStops (n Bs Bp Bv : Nat) (hn : 1 ≤ n) (s : List UInt8) (hl : s.length ≤ 1048576) : SplitStops n Bs Bp Bv (cutL 32 s) s := by
  intro l J Jx hJs hbox hY W h0 hs
  have HL := Lib.hid hl
  clear hl
  generalize hPP : cutL 32 s = P at *
  have HP := Lib.hid hPP
  clear hPP
  refine callsIn_of_wp Tryd.func65 rfl trivial ?_ rfl
  simp only [Tryd.ntmps65, List.size_toArray, List.length_cons, List.length_nil, Nat.reduceAdd, Nat.reduceSub, Array.replicate_succ, Array.replicate_zero, List.push_toArray, List.append_toArray, List.nil_append, List.cons_append]
  have c1 := (hbox 0 W h0).1.cell
  have hP0 := cut_pos 32 s
  have hPl := cut_len 32 s
  rw [HP.out] at hP0 hPl
  gi_wp2
  clear c1
  gi_loopw [7] (fun _ wr => ∃ (k : Nat) (r : List UInt8), k < P.length ∧ J k wr ∧ Boxed wr Bs 9 (.string (strB r)) ∧ r.length ≤ 1048576 ∧ Hid (P.drop k = cutL 32 r)) (fun _ wr => boxLen Bs wr)
  case atStart => exact ⟨0, s, hP0, h0, hs, HL.out, Lib.hid HP.out.symm⟩
  case round =>
    obtain ⟨k, r, hk, hj, hb, hrl, hcut⟩ := hrel
    clear h0 hs hP0 hPl
    have c1 := (hbox k _ hj).1.cell
    have c3 := (hbox k _ hj).2.cell
    have c2 := hb.cell
    rcases index_cases r 32 with ⟨hno, hi⟩ | ⟨a, b, hab, ha, hi⟩
    · have HI := Lib.hid (Tryd.strings_Index_one (strB r) 32 wr)
      have hi' : Lib.indexByte (strB r).data.toList 32 = -1 := hi
      rw [hi'] at HI
      have hd := hcut.out
      rw [cutL_no hno] at hd
      have HK : Hid (k + 1 = P.length) := Lib.hid (by have := congrArg List.length hd; simp at this; omega)
      have hg : P.getD k [] = r := by
        rw [List.drop_eq_getElem_cons hk] at hd
        have := (List.cons.inj hd).1
        rw [← this]; simp [List.getD, hk]
      obtain ⟨fn, tmps, assign, body, hy, hR⟩ := hY k _ _ hk hj hb
      rw [hg] at hy
      clear hi hi' hno hd hg hcut hY hj
      generalize strB r = sr at *
      gi_wp2_with (refine ⟨trivial, ?_⟩; gi_at_call 67; refine (callsIn_wide.2 HI.out).mono ?_; rintro e w' ⟨rfl, rfl⟩)
      refine hR.mono ?_
      rintro e W3 (⟨rfl, hJ3, _⟩ | ⟨rfl, hJx3⟩)
      · gi_wp2
        go_end0
        exact ⟨⟨_, rfl⟩, .inl (by rw [← HK.out]; exact hJ3)⟩
      · gi_wp2
        go_end0
        exact ⟨⟨_, rfl⟩, .inr hJx3⟩
    · subst hab
      have HI := Lib.hid (Tryd.strings_Index_one (strB (a ++ 32 :: b)) 32 wr)
      have hi' : Lib.indexByte (strB (a ++ 32 :: b)).data.toList 32 = (a.length : Int) := hi
      rw [hi'] at HI
      have hd := hcut.out
      rw [cutL_app b ha] at hd
      have hd2 : P.drop (k + 1) = cutL 32 b := by
        rw [List.drop_eq_getElem_cons hk] at hd
        exact (List.cons.inj hd).2
      have hk2 : k + 1 < P.length := by
        have := congrArg List.length hd2
        have h2 := cut_pos 32 b
        rw [List.length_drop] at this
        omega
      have HD2 := Lib.hid hd2
      have hg : P.getD k [] = a := by
        rw [List.drop_eq_getElem_cons hk] at hd
        have := (List.cons.inj hd).1
        rw [← this]; simp [List.getD, hk]
      obtain ⟨fn, tmps, assign, body, hy, hR⟩ := hY k _ _ hk hj hb
      have hsz : ((strB (a ++ 32 :: b)).size : Int) = (a.length : Int) + 1 + (b.length : Int) := by rw [strB_size]; simp; omega
      have hszn : (strB (a ++ 32 :: b)).size = a.length + 1 + b.length := by rw [strB_size]; simp; omega
      have HSZ := Lib.hid hszn
      have hbl : b.length ≤ 1048576 := by simp at hrl; omega
      have hal : (a.length : Int) ≤ 1048576 := by simp at hrl; omega
      have H1 := strB_take a (32 :: b)
      have H2 := Lib.hid (strB_drop a 32 b)
      have hs2 : (strB (a ++ 32 :: b)).size = (a ++ 32 :: b).length := strB_size _
      rw [← hs2] at H2
      rw [hg, ← H1] at hy
      clear hi hi' hd hd2 hg hcut hj hszn hs2 H1 hY hrl
      generalize strB (a ++ 32 :: b) = sr at *
      have x0 : (0 : Int) ≤ (a.length : Int) := by omega
      have x3 : (a.length : Int) + 1 ≤ (sr.size : Int) := by omega
      have x4 : (a.length : Int) ≤ (sr.size : Int) := by omega
      have x5 : ((a.length : Int) + 1).toNat = a.length + 1 := by omega
      gi_wp2_with (refine ⟨trivial, ?_⟩; gi_at_call 67; refine (callsIn_wide.2 HI.out).mono ?_; rintro e w' ⟨rfl, rfl⟩)
      refine hR.mono ?_
      rintro e W3 (⟨rfl, hJ3, hb3⟩ | ⟨rfl, hJx3⟩)
      · have d1 := (hbox _ _ hJ3).1.cell
        have d2 := hb3.cell
        have d4 := hb3.frozen
        clear c1 c2 c3
        gi_wp2
        exact ⟨⟨k + 1, b, hk2, hJs _ _ _ hJ3, by rw [H2.out]; exact hb3.set _, hbl, HD2⟩, by rw [H2.out, boxLen_of (hb3.set _), boxLen_of hb, strB_size, HSZ.out]; omega⟩
      · gi_wp2
        refine bodyPost_ret (results_none rfl _ _ _) rfl ?_
        exact ⟨⟨_, rfl⟩, .inr hJx3⟩
/-! ### The program's parseMask -/
set_option maxHeartbeats 1000000 in
theorem splitSeq1 (s p : ByteArray) (w : World) : Calls Tryd.prog 58 #[.string s, .string p, .int .i64 0] w fun e w' => e = .returned (.func (.func 65) #[] #[.pointer (some ⟨w.heap.size + 1, 0, none⟩), .pointer (some ⟨w.heap.size, 0, none⟩), .pointer (some ⟨w.heap.size + 2, 0, none⟩)]) ∧ w' = ((w.alloc (.cells #[.string s] 9)).alloc (.cells #[.string p] 9)).alloc (.cells #[.int .i64 0] 3) := by
  go_enter Tryd.func58, Tryd.ntmps58
  go_wp2
  go_ret
  exact ⟨rfl, rfl⟩
set_option maxHeartbeats 1000000 in
theorem splitSeq0 (s p : ByteArray) (w : World) : Calls Tryd.prog 45 #[.string s, .string p] w fun e w' => e = .returned (.func (.func 65) #[] #[.pointer (some ⟨w.heap.size + 1, 0, none⟩), .pointer (some ⟨w.heap.size, 0, none⟩), .pointer (some ⟨w.heap.size + 2, 0, none⟩)]) ∧ w' = ((w.alloc (.cells #[.string s] 9)).alloc (.cells #[.string p] 9)).alloc (.cells #[.int .i64 0] 3) := by
  have H := Lib.hid (splitSeq1 s p w)
  go_enter Tryd.func45, Tryd.ntmps45
  go_wp2_with fail
  refine H.out.mono ?_
  rintro e w1 ⟨rfl, rfl⟩
  go_wp2
  go_ret
  exact ⟨rfl, rfl⟩
end Go.Proofs.YtnfmhiephdhopaaDoor
namespace Go.Proofs.YtnfmhiephdhopaaDoor
open Go.RowKit Go.Shelf
attribute [local go_sem] Oper.semAt_some
set_option linter.unusedVariables false
/-- What parseMask answers. -/
def mskAns (l : List UInt8) : Value := if l = [110, 111, 110, 101] then .tuple #[.int .u32 0, .bool true] else match mskGo 0 (cutL 32 l) with
  | none => .tuple #[.int .u32 0, .bool false]
  | some m => .tuple #[.int .u32 (m : Nat), .bool true]
theorem boxed_below {W W' : World} {C j : Nat} {t : TypeId} {v : Value} (h : Boxed W j t v) (hj : j < C) (hb : Below C W W') : Boxed W' j t v := (hb.block j hj).trans h
theorem mskAns_no {l : List UInt8} (h : ¬ l = [110, 111, 110, 101]) (hg : mskGo 0 (cutL 32 l) = none) : mskAns l = .tuple #[.int .u32 0, .bool false] := by unfold mskAns; rw [if_neg h, hg]
theorem mskAns_yes {l : List UInt8} {m : Nat} (h : ¬ l = [110, 111, 110, 101]) (hg : mskGo 0 (cutL 32 l) = some m) : mskAns l = .tuple #[.int .u32 (m : Nat), .bool true] := by unfold mskAns; rw [if_neg h, hg]
theorem mskGo_hit {m : Nat} {P : List (List UInt8)} {k : Nat} (hk : k < P.length) (h : partOk (cutL 45 (P.getD k [])) = true) : mskGo m (P.drop k) = mskGo (m ||| partMask (cutL 45 (P.getD k []))) (P.drop (k + 1)) := by
  have e : P.getD k [] = P[k] := by simp [List.getD, hk]
  rw [e] at h
  rw [List.drop_eq_getElem_cons hk, e]
  show (if partOk (cutL 45 P[k]) = true then _ else _) = _
  rw [if_pos h]
theorem mskGo_miss {m : Nat} {P : List (List UInt8)} {k : Nat} (hk : k < P.length) (h : partOk (cutL 45 (P.getD k [])) = false) : mskGo m (P.drop k) = none := by
  have e : P.getD k [] = P[k] := by simp [List.getD, hk]
  rw [e] at h
  rw [List.drop_eq_getElem_cons hk]
  show (if partOk (cutL 45 P[k]) = true then _ else _) = _
  rw [h]; rfl
theorem partMask_lt {ps : List (List UInt8)} (h : partOk ps = true) : partMask ps < 16777216 := by
  obtain ⟨f, t, _, h2, _, _, h5, _⟩ := partOk_range h
  rw [h5]; exact rangeM_lt h2
set_option maxHeartbeats 4000000 in
set_option maxRecDepth 100000 in
theorem implParseMask (l : List UInt8) (w : World) (hl : l.length ≤ 1048576) (hT : Tab w) :
    Calls Tryd.prog 32 #[.string (strB l)] w fun e w' => e = .returned (mskAns l) ∧ Below w.heap.size w w' := by
  refine (callsIn_wide (n := 6)).1 ?_
  by_cases hnone : l = [110, 111, 110, 101]
  · have HA : Hid (mskAns l = .tuple #[.int .u32 0, .bool true]) := Lib.hid (by unfold mskAns; rw [if_pos hnone])
    have e0 : strB l = ⟨#[110, 111, 110, 101]⟩ := by rw [hnone]; rfl
    rw [e0]
    clear hnone e0 hl hT
    refine callsIn_of_wp_marks Tryd.func32 rfl trivial ?_ rfl
    simp only [Tryd.ntmps32, List.size_toArray, List.length_cons, List.length_nil, Nat.reduceAdd, Nat.reduceSub, Array.replicate_succ, Array.replicate_zero, List.push_toArray, List.append_toArray, List.nil_append, List.cons_append]
    gi_wp2
    have k0 : Boxed (((w.alloc (.cells #[.int .u32 0] 37)).alloc (.cells #[.bool true] 4)).alloc (.cells #[.int .u32 0] 37)) w.heap.size 37 (.int .u32 0) := ((Boxed.new w _ _).alloc _).alloc _
    have k1 : Boxed (((w.alloc (.cells #[.int .u32 0] 37)).alloc (.cells #[.bool true] 4)).alloc (.cells #[.int .u32 0] 37)) (w.heap.size + 1) 4 (.bool true) := by
      have := Boxed.new (w.alloc (.cells #[.int .u32 0] 37)) 4 (.bool true)
      simp only [World.size_alloc] at this
      exact this.alloc _
    have kb : Below w.heap.size w (((w.alloc (.cells #[.int .u32 0] 37)).alloc (.cells #[.bool true] 4)).alloc (.cells #[.int .u32 0] 37)) := (((Below.refl _ w).alloc (Nat.le_refl _) _).alloc (by simp) _).alloc (by simp; omega) _
    generalize (((w.alloc (.cells #[.int .u32 0] 37)).alloc (.cells #[.bool true] 4)).alloc (.cells #[.int .u32 0] 37)) = W5 at *
    have e0 := k0.cell
    have e1 := k1.cell
    refine ⟨_, ?_, ret_v HA.out.symm, kb⟩
    simp [results, Tryd.f32, go_sem, e0, e1]
  · have f1 : ((strB l).toList == [110, 111, 110, 101]) = false := by rw [strB_toList, beq_eq_false_iff_ne]; exact hnone
    refine callsIn_of_wp_marks Tryd.func32 rfl trivial ?_ rfl
    simp only [Tryd.ntmps32, List.size_toArray, List.length_cons, List.length_nil, Nat.reduceAdd, Nat.reduceSub, Array.replicate_succ, Array.replicate_zero, List.push_toArray, List.append_toArray, List.nil_append, List.cons_append]
    gi_wp2_with (refine ⟨trivial, ?_⟩; gi_at_call 45; refine (callsIn_wide.2 (splitSeq0 _ _ _)).mono ?_; rintro e w' ⟨rfl, rfl⟩)
    have HNO := Lib.hid hnone
    have HT := Lib.hid hT
    have HQ : Hid (∀ k, ((cutL 32 l).getD k []).length ≤ 1048576) := Lib.hid (fun k => Nat.le_trans (cut_piece 32 l k) hl)
    have HSP := splitStops 5 (w.heap.size + 1 + 1 + 1) (w.heap.size + 1 + 1 + 1 + 1) (w.heap.size + 1 + 1 + 1 + 2) (by omega) l hl
    obtain ⟨W0, hW0⟩ : ∃ W0, ((((((w.alloc (.cells #[.int .u32 0] 37)).alloc (.cells #[.bool false] 4)).alloc (.cells #[.int .u32 0] 37)).alloc (.cells #[.string (strB l)] 9)).alloc (.cells #[.string ⟨#[32]⟩] 9)).alloc (.cells #[.int .i64 0] 3)) = W0 := ⟨_, rfl⟩
    rw [hW0]
    have x0 : Boxed W0 w.heap.size 37 (.int .u32 0) := by rw [← hW0]; exact (((((Boxed.new w _ _).alloc _).alloc _).alloc _).alloc _).alloc _
    have x1 : Boxed W0 (w.heap.size + 1) 4 (.bool false) := by
      have := Boxed.new (w.alloc (.cells #[.int .u32 0] 37)) 4 (.bool false)
      simp only [World.size_alloc] at this
      rw [← hW0]; exact ((((this.alloc _).alloc _).alloc _).alloc _)
    have x2 : Boxed W0 (w.heap.size + 1 + 1) 37 (.int .u32 ((0 : Nat) : Int)) := by
      have := Boxed.new ((w.alloc (.cells #[.int .u32 0] 37)).alloc (.cells #[.bool false] 4)) 37 (.int .u32 0)
      simp only [World.size_alloc] at this
      rw [← hW0]; exact (((this.alloc _).alloc _).alloc _)
    have x3 : Boxed W0 (w.heap.size + 1 + 1 + 1) 9 (.string (strB l)) := by
      have := Boxed.new (((w.alloc (.cells #[.int .u32 0] 37)).alloc (.cells #[.bool false] 4)).alloc (.cells #[.int .u32 0] 37)) 9 (.string (strB l))
      simp only [World.size_alloc] at this
      rw [← hW0]; exact ((this.alloc _).alloc _)
    have x4 : Boxed W0 (w.heap.size + 1 + 1 + 1 + 1) 9 (.string ⟨#[32]⟩) := by
      have := Boxed.new ((((w.alloc (.cells #[.int .u32 0] 37)).alloc (.cells #[.bool false] 4)).alloc (.cells #[.int .u32 0] 37)).alloc (.cells #[.string (strB l)] 9)) 9 (.string ⟨#[32]⟩)
      simp only [World.size_alloc] at this
      rw [← hW0]; exact this.alloc _
    have x5 : Boxed W0 (w.heap.size + 1 + 1 + 1 + 2) 3 (.int .i64 0) := by
      have := Boxed.new (((((w.alloc (.cells #[.int .u32 0] 37)).alloc (.cells #[.bool false] 4)).alloc (.cells #[.int .u32 0] 37)).alloc (.cells #[.string (strB l)] 9)).alloc (.cells #[.string ⟨#[32]⟩] 9)) 3 (.int .i64 0)
      simp only [World.size_alloc] at this
      rw [← hW0]; exact this
    have xs : W0.heap.size = w.heap.size + 1 + 1 + 1 + 3 := by rw [← hW0]; simp [World.size_alloc]
    have xb : Below w.heap.size w W0 := by
      rw [← hW0]
      exact ((((((Below.refl _ w).alloc (Nat.le_refl _) _).alloc (by simp) _).alloc (by simp; omega) _).alloc (by simp; omega) _).alloc (by simp; omega) _).alloc (by simp; omega) _
    clear hW0 hnone hT f1 hl
    refine rangeSplit (by omega) (w.heap.size + 1 + 1 + 1) l rfl xs HSP x3 x4 x5
      (fun k W => ∃ m : Nat, m < 16777216 ∧ Hid (mskGo m ((cutL 32 l).drop k) = mskGo 0 (cutL 32 l)) ∧ Boxed W w.heap.size 37 (.int .u32 0) ∧ Boxed W (w.heap.size + 1) 4 (.bool false) ∧ Boxed W (w.heap.size + 1 + 1) 37 (.int .u32 (m : Int)) ∧ Below w.heap.size w W)
      (fun W => Hid (mskGo 0 (cutL 32 l) = none) ∧ Boxed W w.heap.size 37 (.int .u32 0) ∧ Boxed W (w.heap.size + 1) 4 (.bool false) ∧ Below w.heap.size w W)
      ?hI ?hIx ⟨0, by omega, Lib.hid rfl, x0, x1, x2, xb⟩
      (fun x => { tmps := #[.string (strB l), undef, .pointer (some ⟨w.heap.size, 0, none⟩), .pointer (some ⟨w.heap.size + 1, 0, none⟩), .pointer (some ⟨w.heap.size + 1 + 1, 0, none⟩), .string (strB x), undef, undef, .string (strB l), .bool false, undef, .string (strB l), .func (.func 65) #[] #[.pointer (some ⟨w.heap.size + 1 + 1 + 1 + 1, 0, none⟩), .pointer (some ⟨w.heap.size + 1 + 1 + 1, 0, none⟩), .pointer (some ⟨w.heap.size + 1 + 1 + 1 + 2, 0, none⟩)], .string (strB x), undef, undef, undef, undef, undef, undef, undef, undef, undef, undef, undef], defers := [] })
      rfl ?assign ?body ?done ?stop
    case hI =>
      rintro k W W' ⟨m, hm, hgo, b0, b1, b2, hbel⟩ hb
      exact ⟨m, hm, hgo, boxed_below b0 (by omega) hb, boxed_below b1 (by omega) hb, boxed_below b2 (by omega) hb, hbel.trans (hb.mono (by omega))⟩
    case hIx =>
      rintro W W' ⟨hgo, b0, b1, hbel⟩ hb
      exact ⟨hgo, boxed_below b0 (by omega) hb, boxed_below b1 (by omega) hb, hbel.trans (hb.mono (by omega))⟩
    case assign =>
      intro L x W K hK
      gi_wp2
      exact hK
    case body =>
      rintro L k W hk ⟨m, hm, hgo, b0, b1, b2, hbel⟩
      clear x0 x1 x2 x3 x4 x5 xs xb HSP
      have hsz : w.heap.size + 1 + 1 < W.heap.size := b2.lt
      have hQ := HQ.out k
      have HITK : Hid (partOk (cutL 45 ((cutL 32 l).getD k [])) = true → mskGo (m ||| partMask (cutL 45 ((cutL 32 l).getD k []))) ((cutL 32 l).drop (k + 1)) = mskGo 0 (cutL 32 l)) := Lib.hid (fun h => by rw [← mskGo_hit hk h]; exact hgo.out)
      have HMISS : Hid (partOk (cutL 45 ((cutL 32 l).getD k [])) = false → mskGo 0 (cutL 32 l) = none) := Lib.hid (fun h => by rw [← hgo.out]; exact mskGo_miss hk h)
      generalize (cutL 32 l).getD k [] = q at *
      have HRUN := Lib.hid (implParseRun q W hQ (HT.out.on hbel))
      cases hpo : partOk (cutL 45 q) with
      | true =>
        have hra : runAns q = .tuple #[.int .u32 ((partMask (cutL 45 q) : Nat) : Int), .bool true] := by unfold runAns; rw [if_pos hpo]
        have hpm := partMask_lt hpo
        have HG := Lib.hid (HITK.out hpo)
        have HOR := Lib.hid (or_u32 m (partMask (cutL 45 q)) (by omega) (by omega))
        have HLT : Hid (m ||| partMask (cutL 45 q) < 16777216) := Lib.hid (Nat.or_lt_two_pow (n := 24) hm hpm)
        rw [hra] at HRUN
        clear hra hpm hpo HITK HMISS hgo hQ
        generalize partMask (cutL 45 q) = pm at *
        gi_wp2_with (refine ⟨trivial, ?_⟩; gi_at_call 46; refine (CallsIn.inRound L (callsIn_wide.2 HRUN.out)).mono ?_; rintro e w1 ⟨rfl, hb⟩; have k0 := boxed_below b0 (by omega) hb; have k1 := boxed_below b1 (by omega) hb; have k2 := boxed_below b2 (by omega) hb; have c2 := k2.cell; have f2 := k2.frozen)
        exact ⟨(stays_below hb).trans (stays_set (by omega) _), m ||| pm, HLT.out, HG, k0.other (by omega) _, k1.other (by omega) _, by rw [HOR.out]; exact k2.set _, (hbel.trans (hb.mono (by omega))).setCell (p := ⟨_, 0, none⟩) (by simp; omega) _⟩
      | false =>
        have hra : runAns q = .tuple #[.int .u32 0, .bool false] := by unfold runAns; rw [if_neg (by rw [hpo]; exact Bool.noConfusion)]
        have HG := Lib.hid (HMISS.out hpo)
        rw [hra] at HRUN
        clear hra hpo HITK HMISS hgo hQ
        gi_wp2_with (refine ⟨trivial, ?_⟩; gi_at_call 46; refine (CallsIn.inRound L (callsIn_wide.2 HRUN.out)).mono ?_; rintro e w1 ⟨rfl, hb⟩; have k0 := boxed_below b0 (by omega) hb; have k1 := boxed_below b1 (by omega) hb; have c0 := k0.cell; have f0 := k0.frozen; have c1 := k1.cell; have f1 := k1.frozen)
        exact ⟨((stays_below hb).trans (stays_set (by omega) _)).trans (stays_set (by omega) _), HG, (k0.set _).other (by omega) _, (k1.other (by omega) _).set _, ((hbel.trans (hb.mono (by omega))).setCell (p := ⟨_, 0, none⟩) (by simp) _).setCell (p := ⟨_, 0, none⟩) (by simp) _⟩
    case done =>
      rintro D W hD ⟨m, hm, hgo, b0, b1, b2, hbel⟩ hK
      clear x0 x1 x2 x3 x4 x5 xs xb HSP
      have HA : Hid (mskAns l = .tuple #[.int .u32 (m : Nat), .bool true]) := Lib.hid (mskAns_yes HNO.out (by have := hgo.out; rw [List.drop_eq_nil_of_le (Nat.le_refl _)] at this; exact this.symm))
      have c0 := b0.cell
      have f0 := b0.frozen
      have c1 := b1.cell
      have f1 := b1.frozen
      have c2 := b2.cell
      clear hgo
      gi_wp2
      have k0 := (b0.set (.int .u32 (m : Int))).other (B' := w.heap.size + 1) (by omega) (.bool true)
      have k1 := (b1.other (B' := w.heap.size) (by omega) (.int .u32 (m : Int))).set (.bool true)
      have hKD : ((W.setCell ⟨w.heap.size, 0, none⟩ (.int .u32 (m : Int))).setCell ⟨w.heap.size + 1, 0, none⟩ (.bool true)).heap[D]? = some (.deferred (some [])) :=
        ((Below.heap_setCell _ _ _ D (by simp; omega)).trans (Below.heap_setCell _ _ _ D (by simp; omega))).trans hK
      have hbel5 : Below w.heap.size w ((W.setCell ⟨w.heap.size, 0, none⟩ (.int .u32 (m : Int))).setCell ⟨w.heap.size + 1, 0, none⟩ (.bool true)) := (hbel.setCell (p := ⟨w.heap.size, 0, none⟩) (by simp) _).setCell (p := ⟨w.heap.size + 1, 0, none⟩) (by simp) _
      clear c0 f0 c1 f1 c2 hK hbel b0 b1 b2
      generalize (W.setCell ⟨w.heap.size, 0, none⟩ (.int .u32 (m : Int))).setCell ⟨w.heap.size + 1, 0, none⟩ (.bool true) = W5 at *
      refine ⟨by simp, .inl ⟨_, _, rfl, run_takeDeferred hKD, ?_⟩⟩
      have hput := below_put (B := w.heap.size + 1 + 1 + 1) W5 (.deferred none) hKD hD
      have e0 := (boxed_below k0 (by omega) hput).cell
      have e1 := (boxed_below k1 (by omega) hput).cell
      refine ⟨_, ?_, ret_v HA.out.symm, hbel5.trans (hput.mono (by omega))⟩
      simp [results, Tryd.f32, go_sem, e0, e1]
    case stop =>
      rintro D W hD ⟨hgo, b0, b1, hbel⟩ hK
      clear x0 x1 x2 x3 x4 x5 xs xb HSP
      have HA : Hid (mskAns l = .tuple #[.int .u32 0, .bool false]) := Lib.hid (mskAns_no HNO.out hgo.out)
      gi_wp2
      refine ⟨by simp, .inl ⟨_, _, rfl, run_takeDeferred hK, ?_⟩⟩
      have hput := below_put (B := w.heap.size + 1 + 1 + 1) W (.deferred none) hK hD
      have e0 := (boxed_below b0 (by omega) hput).cell
      have e1 := (boxed_below b1 (by omega) hput).cell
      refine ⟨_, ?_, ret_v HA.out.symm, hbel.trans (hput.mono (by omega))⟩
      simp [results, Tryd.f32, go_sem, e0, e1]
end Go.Proofs.YtnfmhiephdhopaaDoor
namespace Go.Proofs.YtnfmhiephdhopaaDoor
open Go.RowKit
set_option linter.unusedVariables false
theorem ret_ps {l : List UInt8} {v : Value} {xs : List Int} {b : Bool} (h : parSet l = (xs, b)) : Ending.returned (.tuple #[v, .bool b]) = .returned (.tuple #[v, .bool (parSet l).2]) := by rw [h]
theorem own_ps {l : List UInt8} {w : World} {B : Nat} {v : Value} {xs : List Int} {b : Bool} (h : parSet l = (xs, b)) (ho : OwnsN w B v xs) : OwnsN w B v (parSet l).1 := by rw [h]; exact ho
end Go.Proofs.YtnfmhiephdhopaaDoor
namespace Go.Proofs.YtnfmhiephdhopaaDoor
open Go.RowKit
set_option linter.unusedVariables false
theorem ownsN_base' {w : World} {B C : Nat} {v : Value} {xs : List Int} (h : OwnsN w C v xs) (hb : B ≤ C) : OwnsN w B v xs := by
  refine ⟨h.1, ?_⟩
  rcases h.2 with hn | ⟨g, cap, cur, e, hb', rest⟩
  · exact .inl hn
  · exact .inr ⟨g, cap, cur, e, Nat.le_trans hb hb', rest⟩
theorem mskAns_cases (l : List UInt8) : (mskAns l = .tuple #[.int .u32 0, .bool false] ∧ parSet l = ([], false)) ∨
    ∃ m : Nat, mskAns l = .tuple #[.int .u32 (m : Nat), .bool true] ∧ m < 16777216 ∧ (fmtRuns (memL m) = l → parSet l = (memL m, true)) ∧ (¬ fmtRuns (memL m) = l → parSet l = ([], false)) := by
  by_cases h : l = [110, 111, 110, 101]
  · refine Or.inr ⟨0, by unfold mskAns; rw [if_pos h]; rfl, by omega, fun _ => ?_, fun g => ?_⟩
    · rw [memL_zero]; exact parSet_none h
    · exact absurd (by rw [memL_zero, h]; rfl) g
  · rcases parSet_mask h with ⟨h1, h2⟩ | ⟨m, h1, h2, h3, h4⟩
    · exact Or.inl ⟨mskAns_no h h1, h2⟩
    · exact Or.inr ⟨m, mskAns_yes h h1, h2, h3, h4⟩
set_option maxHeartbeats 4000000 in
set_option maxRecDepth 100000 in
theorem implParSet (l : List UInt8) (w : World) (hl : l.length ≤ 1048576) (hT : Tab w) (hZ : TabZ w) :
    Calls Tryd.prog 17 #[.string (strB l)] w fun e w' => ∃ v, e = .returned (.tuple #[v, .bool (parSet l).2]) ∧ OwnsN w' w.heap.size v (parSet l).1 ∧ Below w.heap.size w w' := by
  have HM := Lib.hid (implParseMask l w hl hT)
  have HZ := Lib.hid hZ
  clear hT hZ hl
  rcases mskAns_cases l with ⟨h1, h2⟩ | ⟨m, h1, h2, h3, h4⟩
  · have HP := Lib.hid h2
    rw [h1] at HM
    clear h1 h2
    go_enter Tryd.func17, Tryd.ntmps17
    go_wp2_with fail
    refine HM.out.mono ?_
    rintro e w1 ⟨rfl, b1⟩
    go_wp2
    go_ret2
    exact ⟨_, ret_ps HP.out, own_ps HP.out (ownsN_nil _ _), b1⟩
  · have HF := Lib.hid (implFormat m h2)
    rw [h1] at HM
    by_cases he : fmtRuns (memL m) = l
    · have HP := Lib.hid (h3 he)
      have heq : ((strB (fmtRuns (memL m))).toList == (strB l).toList) = true := by rw [he]; simp
      have HE := Lib.hid heq
      have HMEM := Lib.hid (implMembers m)
      have HLT := Lib.hid h2
      clear h1 h2 h3 h4 he heq
      generalize strB (fmtRuns (memL m)) = y at *
      go_enter Tryd.func17, Tryd.ntmps17
      go_wp2_with fail
      refine HM.out.mono ?_
      rintro e w1 ⟨rfl, b1⟩
      go_wp2_with fail
      refine (HF.out _ (HZ.out.on b1)).mono ?_
      rintro e w2 ⟨rfl, b2⟩
      have b3 := b1.trans (b2.mono b1.size)
      have heq := HE.out
      clear b1 b2
      go_wp2_with fail
      refine (HMEM.out _ HLT.out).mono ?_
      rintro e w4 ⟨v, rfl, o4, b4⟩
      have b5 := b3.trans (b4.mono b3.size)
      have o5 := ownsN_base' o4 b3.size
      clear b3 b4 o4 heq
      go_wp2
      go_ret2
      exact ⟨_, ret_ps HP.out, own_ps HP.out o5, b5⟩
    · have HP := Lib.hid (h4 he)
      have heq : ((strB (fmtRuns (memL m))).toList == (strB l).toList) = false := by rw [beq_eq_false_iff_ne, strB_toList, strB_toList]; exact he
      have HE := Lib.hid heq
      clear h1 h2 h3 h4 he heq
      generalize strB (fmtRuns (memL m)) = y at *
      go_enter Tryd.func17, Tryd.ntmps17
      go_wp2_with fail
      refine HM.out.mono ?_
      rintro e w1 ⟨rfl, b1⟩
      go_wp2_with fail
      refine (HF.out _ (HZ.out.on b1)).mono ?_
      rintro e w2 ⟨rfl, b2⟩
      have b3 := b1.trans (b2.mono b1.size)
      have heq := HE.out
      clear b1 b2
      go_wp2
      go_ret2
      exact ⟨_, ret_ps HP.out, own_ps HP.out (ownsN_nil _ _), b3⟩
end Go.Proofs.YtnfmhiephdhopaaDoor
namespace Go.Proofs.YtnfmhiephdhopaaDoor
open Go.RowKit
set_option linter.unusedVariables false
set_option maxRecDepth 100000 in
theorem hasL (v : Value) (xs : List Int) (x : Int) (w : World) (h : Ints w v xs) (hn : xs.length ≤ 1048576) :
    Calls Tryd.prog 20 #[v, .int .i64 x] w fun e w' => e = .returned (.bool (decide (x ∈ xs))) ∧ Below w.heap.size w w' := by
  have H := Lib.hid h
  obtain ⟨a, cap, rfl⟩ := ints_len h
  clear h
  go_enter Tryd.func20, Tryd.ntmps20
  go_wp2
  go_loop [5] (fun i => ∃ k : Nat, k ≤ xs.length ∧ i = .int .i64 k ∧ Hid (∀ j, j < k → xs.getD j 0 ≠ x)) (fun i => xs.length - (intOf i).toNat)
  case atStart => exact ⟨0, Nat.zero_le _, rfl, Lib.hid (fun j hj => by omega)⟩
  case round =>
    obtain ⟨k, hk, rfl, hne⟩ := hrel
    by_cases hlt : k < xs.length
    · obtain ⟨b, off, cap', hv, hbl, hc⟩ := ints_cell H.out (by omega)
      simp only [Value.slice.injEq] at hv
      obtain ⟨rfl, _, rfl⟩ := hv
      have hcell := hc k hlt
      have i1 : (0 : Int) ≤ (k : Int) := by omega
      have i2 : (k : Int) < (xs.length : Int) := by omega
      clear hc
      by_cases he : xs.getD k 0 = x
      · have HY := Lib.hid (show decide (x ∈ xs) = true from decide_eq_true ((member_iff xs x).2 ⟨k, hlt, he⟩))
        rw [he] at hcell
        have heq : (x == x) = true := by simp
        clear he
        go_wp2
        go_ret
        exact ⟨ret_b HY.out.symm, Below.refl _ _⟩
      · have HN : Hid (∀ j, j < k + 1 → xs.getD j 0 ≠ x) := Lib.hid (fun j hj => by
          by_cases e : j = k
          · exact e ▸ he
          · exact hne.out j (by omega))
        have heq : (xs.getD k 0 == x) = false := by rw [beq_eq_false_iff_ne]; exact he
        clear he
        generalize xs.getD k 0 = y at hcell heq
        go_wp2
        go_round
        case rel => exact ⟨k + 1, by omega, by go_num, HN⟩
        case measure => simp [intOf]; omega
    · have HN := Lib.hid (show decide (x ∈ xs) = false from decide_eq_false (fun g => by
        obtain ⟨j, hj, e⟩ := (member_iff xs x).1 g
        exact hne.out j (by omega) e))
      go_wp2
      go_ret
      exact ⟨ret_b HN.out.symm, Below.refl _ _⟩
set_option maxRecDepth 100000 in
theorem sameL (v u : Value) (xs : List Int) (w : World) (h : Ints w v xs) (g : Ints w u xs) (hn : xs.length ≤ 1048576) :
    Calls Tryd.prog 10 #[v, u] w fun e w' => e = .returned (.bool true) ∧ Below w.heap.size w w' := by
  have H := Lib.hid h
  have G := Lib.hid g
  obtain ⟨a, cap, rfl⟩ := ints_len h
  obtain ⟨a2, cap2, rfl⟩ := ints_len g
  clear h g
  go_enter Tryd.func10, Tryd.ntmps10
  go_wp2
  go_loopw [5] (fun i wr => ∃ k : Nat, k ≤ xs.length ∧ i = .int .i64 k ∧ Below w.heap.size w wr) (fun i _ => xs.length - (intOf i).toNat)
  case atStart => exact ⟨0, Nat.zero_le _, rfl, Below.refl _ _⟩
  case round =>
    obtain ⟨k, hk, rfl, hbel⟩ := hrel
    by_cases hlt : k < xs.length
    · obtain ⟨b, off, cap', hv, hbl, hc⟩ := ints_cell H.out (by omega)
      simp only [Value.slice.injEq] at hv
      obtain ⟨rfl, _, rfl⟩ := hv
      obtain ⟨b2, off2, cap2', hv2, hbl2, hc2⟩ := ints_cell G.out (by omega)
      simp only [Value.slice.injEq] at hv2
      obtain ⟨rfl, _, rfl⟩ := hv2
      have hcell := (hbel.cell (p := ⟨b, off + k, none⟩) hbl).trans (hc k hlt)
      have hcell2 := (hbel.cell (p := ⟨b2, off2 + k, none⟩) hbl2).trans (hc2 k hlt)
      have i1 : (0 : Int) ≤ (k : Int) := by omega
      have i2 : (k : Int) < (xs.length : Int) := by omega
      clear hc hc2
      generalize xs.getD k 0 = y at hcell hcell2
      go_wp2
      go_quiet (fail)
      go_wp2
      go_roundw
      case rel => exact ⟨k + 1, by omega, by go_num, below_drewN hbel _⟩
      case measure => simp [intOf]; omega
    · go_wp2
      go_ret
      exact ⟨rfl, hbel⟩
theorem bigL (a : Option Addr) (cap n : Nat) (w : World) : Calls Tryd.prog 5 #[.slice a n cap] w fun e w' => e = .returned (.bool (decide ((1048576 : Int) < (n : Int)))) ∧ w' = w := by
  go_enter Tryd.func5, Tryd.ntmps5
  go_wp2
  go_ret
  exact ⟨rfl, rfl⟩
theorem uniteL_small (a b : List Int) : (uniteL a b).length ≤ 1048576 := by
  unfold uniteL; split
  · have := List.length_filter_le (fun x => decide (x ∈ a) || decide (x ∈ b)) ((List.range 24).map fun i : Nat => (i : Int))
    simp at this ⊢; omega
  · simp
theorem meetL_small (a b : List Int) (h : a.length ≤ 1048576) : (meetL a b).length ≤ 1048576 := by
  unfold meetL; split
  · exact Nat.le_trans (List.length_filter_le _ _) h
  · simp
theorem subL_small (a b : List Int) (h : a.length ≤ 1048576) : (subL a b).length ≤ 1048576 := by
  unfold subL; split
  · exact Nat.le_trans (List.length_filter_le _ _) h
  · simp
set_option maxHeartbeats 16000000 in
set_option maxRecDepth 100000 in
theorem law_fnSets (p : Option Addr) (cap : Nat) (xs : List Int) (w : World) (hcode : Code w (.slice p xs.length cap) xs) (hby : ∀ x ∈ xs, 0 ≤ x ∧ x ≤ 255) (htab : TabZ w ∧ Tab w) :
    Calls Tryd.prog 3 #[.slice p xs.length cap] w fun e w' => e = .returned (.bool true) ∧ Below w.heap.size w w' := by
  obtain ⟨hZ, hT⟩ := htab
  by_cases hl : xs.length ≤ 1048576
  · have HD := Lib.hid (drawUnite _ xs w hcode hl hby)
    have hbig : decide ((1048576 : Int) < (xs.length : Int)) = false := decide_eq_false (by omega)
    have HBIG := Lib.hid (bigL p cap xs.length w)
    rw [hbig] at HBIG
    have HZ := Lib.hid hZ
    have HT := Lib.hid hT
    clear hcode hby hl hbig hZ hT
    generalize xs.length = n at *
    go_enter Tryd.func3, Tryd.ntmps3
    go_wp2_with fail
    refine HBIG.out.mono ?_
    rintro e wx ⟨rfl, rfl⟩
    go_wp2_with fail
    refine HD.out.mono ?_
    rintro e w1 ⟨ua, ub, a, b, ha7, hb7, rfl, oa, ob, b1⟩
    have Ia := ownsN_ints oa
    have Ib := ownsN_ints ob
    have HLA : Hid (a.length ≤ 1048576) := Lib.hid (by omega)
    have HLB : Hid (b.length ≤ 1048576) := Lib.hid (by omega)
    clear oa ob HD HBIG
    obtain ⟨pa, qa, rfl⟩ := ints_len Ia
    obtain ⟨pb, qb, rfl⟩ := ints_len Ib
    have HLu := Lib.hid (uniteL_small a b)
    have HLm := Lib.hid (meetL_small a b HLA.out)
    have HLd := Lib.hid (subL_small a b HLA.out)
    have HPAR := Lib.hid (fun w h1 h2 => implParSet (fmtSet a) w (fmtSet_len a) h1 h2)
    have HFMT := Lib.hid (fun v w h => specFmtSet v a w h HLA.out)
    have HEQ : Hid (((strB (fmtSet a)).toList == (strB (fmtSet a)).toList) = true) := Lib.hid (by simp)
    cases hsa : setB a with
    | false =>
      have HSA := Lib.hid hsa
      obtain ⟨e1, e2, e3⟩ := none_of (a := a) (b := b) (by rw [hsa]; rfl)
      have E1 := Lib.hid e1
      have E2 := Lib.hid e2
      have E3 := Lib.hid e3
      rw [parSet_no' hsa] at HPAR
      clear hsa e1 e2 e3
      go_wp2_with fail
      refine (implUniteSets _ _ a b _ Ia Ib HLA.out HLB.out).mono ?_
      rintro e v1 ⟨xu, rfl, ou, c1⟩
      have d1 := b1.trans (c1.mono b1.size)
      replace Ia := ints_below Ia c1
      replace Ib := ints_below Ib c1
      clear b1
      have Iu := ownsN_ints ou
      clear ou c1
      obtain ⟨pu, qu, rfl⟩ := ints_len Iu
      go_wp2_with fail
      refine (implMeetSets _ _ a b _ Ia Ib HLA.out HLB.out).mono ?_
      rintro e v2 ⟨xm, rfl, om, c2⟩
      have d2 := d1.trans (c2.mono d1.size)
      replace Ia := ints_below Ia c2
      replace Ib := ints_below Ib c2
      replace Iu := ints_below Iu c2
      clear d1
      have Im := ownsN_ints om
      clear om c2
      obtain ⟨pm, qm, rfl⟩ := ints_len Im
      go_wp2_with fail
      refine (implSubtractSets _ _ a b _ Ia Ib HLA.out HLB.out).mono ?_
      rintro e v3 ⟨xd, rfl, od, c3⟩
      have d3 := d2.trans (c3.mono d2.size)
      replace Ia := ints_below Ia c3
      replace Ib := ints_below Ib c3
      replace Iu := ints_below Iu c3
      replace Im := ints_below Im c3
      clear d2
      have Id := ownsN_ints od
      clear od c3
      obtain ⟨pd, qd, rfl⟩ := ints_len Id
      go_wp2_with fail
      refine (specUnite _ _ a b _ Ia Ib HLA.out HLB.out).mono ?_
      rintro e v4 ⟨r, rfl, or, c4⟩
      have d4 := d3.trans (c4.mono d3.size)
      replace Ia := ints_below Ia c4
      replace Ib := ints_below Ib c4
      replace Iu := ints_below Iu c4
      replace Im := ints_below Im c4
      replace Id := ints_below Id c4
      clear d3
      have Ir := ownsN_ints or
      clear or c4
      go_wp2_with fail
      refine (sameL _ _ _ _ Iu Ir HLu.out).mono ?_
      rintro e v5 ⟨rfl, c5⟩
      have d5 := d4.trans (c5.mono d4.size)
      replace Ia := ints_below Ia c5
      replace Ib := ints_below Ib c5
      replace Iu := ints_below Iu c5
      replace Im := ints_below Im c5
      replace Id := ints_below Id c5
      replace Ir := ints_below Ir c5
      clear d4 c5
      clear Ir
      go_wp2_with fail
      refine (specMeet _ _ a b _ Ia Ib HLA.out HLB.out).mono ?_
      rintro e v6 ⟨r, rfl, or, c6⟩
      have d6 := d5.trans (c6.mono d5.size)
      replace Ia := ints_below Ia c6
      replace Ib := ints_below Ib c6
      replace Iu := ints_below Iu c6
      replace Im := ints_below Im c6
      replace Id := ints_below Id c6
      clear d5
      have Ir := ownsN_ints or
      clear or c6
      go_wp2_with fail
      refine (sameL _ _ _ _ Im Ir HLm.out).mono ?_
      rintro e v7 ⟨rfl, c7⟩
      have d7 := d6.trans (c7.mono d6.size)
      replace Ia := ints_below Ia c7
      replace Ib := ints_below Ib c7
      replace Iu := ints_below Iu c7
      replace Im := ints_below Im c7
      replace Id := ints_below Id c7
      replace Ir := ints_below Ir c7
      clear d6 c7
      clear Ir
      go_wp2_with fail
      refine (specSub _ _ a b _ Ia Ib HLA.out HLB.out).mono ?_
      rintro e v8 ⟨r, rfl, or, c8⟩
      have d8 := d7.trans (c8.mono d7.size)
      replace Ia := ints_below Ia c8
      replace Ib := ints_below Ib c8
      replace Iu := ints_below Iu c8
      replace Im := ints_below Im c8
      replace Id := ints_below Id c8
      clear d7
      have Ir := ownsN_ints or
      clear or c8
      go_wp2_with fail
      refine (sameL _ _ _ _ Id Ir HLd.out).mono ?_
      rintro e v9 ⟨rfl, c9⟩
      have d9 := d8.trans (c9.mono d8.size)
      replace Ia := ints_below Ia c9
      replace Ib := ints_below Ib c9
      replace Iu := ints_below Iu c9
      replace Im := ints_below Im c9
      replace Id := ints_below Id c9
      replace Ir := ints_below Ir c9
      clear d8 c9
      clear Ir
      go_wp2_with fail
      refine (implIsSet _ a _ Ia HLA.out).mono ?_
      rintro e v10 ⟨rfl, c10⟩
      have d10 := d9.trans (c10.mono d9.size)
      replace Ia := ints_below Ia c10
      replace Ib := ints_below Ib c10
      replace Iu := ints_below Iu c10
      replace Im := ints_below Im c10
      replace Id := ints_below Id c10
      clear d9 c10
      go_wp2_with fail
      refine (specIsSet _ a _ Ia HLA.out).mono ?_
      rintro e v11 ⟨rfl, c11⟩
      have d11 := d10.trans (c11.mono d10.size)
      replace Ia := ints_below Ia c11
      replace Ib := ints_below Ib c11
      replace Iu := ints_below Iu c11
      replace Im := ints_below Im c11
      replace Id := ints_below Id c11
      clear d10 c11
      go_wp2_with fail
      refine (implFormatSet _ a _ Ia (HZ.out.on d11) HLA.out).mono ?_
      rintro e v12 ⟨rfl, c12⟩
      have d12 := d11.trans (c12.mono d11.size)
      replace Ia := ints_below Ia c12
      replace Ib := ints_below Ib c12
      replace Iu := ints_below Iu c12
      replace Im := ints_below Im c12
      replace Id := ints_below Id c12
      clear d11 c12
      go_wp2_with fail
      refine (HPAR.out _ (HT.out.on d12) (HZ.out.on d12)).mono ?_
      rintro e v13 ⟨xx, rfl, ox, c13⟩
      have d13 := d12.trans (c13.mono d12.size)
      replace Ia := ints_below Ia c13
      replace Ib := ints_below Ib c13
      replace Iu := ints_below Iu c13
      replace Im := ints_below Im c13
      replace Id := ints_below Id c13
      clear d12
      have Ix := ownsN_ints ox
      clear ox c13
      go_wp2_with fail
      refine (HFMT.out _ _ Ia).mono ?_
      rintro e v14 ⟨rfl, c14⟩
      have d14 := d13.trans (c14.mono d13.size)
      replace Ia := ints_below Ia c14
      replace Ib := ints_below Ib c14
      replace Iu := ints_below Iu c14
      replace Im := ints_below Im c14
      replace Id := ints_below Id c14
      replace Ix := ints_below Ix c14
      clear d13 c14
      have heq := HEQ.out
      go_wp2_with fail
      refine (specIsSet _ a _ Ia HLA.out).mono ?_
      rintro e v15 ⟨rfl, c15⟩
      have d15 := d14.trans (c15.mono d14.size)
      replace Ia := ints_below Ia c15
      replace Ib := ints_below Ib c15
      replace Iu := ints_below Iu c15
      replace Im := ints_below Im c15
      replace Id := ints_below Id c15
      replace Ix := ints_below Ix c15
      clear d14 c15
      rw [HSA.out]
      clear Ix heq
      go_wp2_with fail
      refine (specIsSet _ a _ Ia HLA.out).mono ?_
      rintro e v16 ⟨rfl, c16⟩
      have d16 := d15.trans (c16.mono d15.size)
      replace Ia := ints_below Ia c16
      replace Ib := ints_below Ib c16
      replace Iu := ints_below Iu c16
      replace Im := ints_below Im c16
      replace Id := ints_below Id c16
      clear d15 c16
      rw [HSA.out]
      rw [E1.out, E2.out, E3.out]
      go_wp2
      go_ret
      exact ⟨rfl, d16⟩
    | true =>
      have HSA := Lib.hid hsa
      rw [parSet_yes' hsa] at HPAR
      cases hsb : setB b with
      | false =>
        have HSB := Lib.hid hsb
        obtain ⟨e1, e2, e3⟩ := none_of (a := a) (b := b) (by rw [hsa, hsb]; rfl)
        have E1 := Lib.hid e1
        have E2 := Lib.hid e2
        have E3 := Lib.hid e3
        clear hsa hsb e1 e2 e3
        go_wp2_with fail
        refine (implUniteSets _ _ a b _ Ia Ib HLA.out HLB.out).mono ?_
        rintro e v1 ⟨xu, rfl, ou, c1⟩
        have d1 := b1.trans (c1.mono b1.size)
        replace Ia := ints_below Ia c1
        replace Ib := ints_below Ib c1
        clear b1
        have Iu := ownsN_ints ou
        clear ou c1
        obtain ⟨pu, qu, rfl⟩ := ints_len Iu
        go_wp2_with fail
        refine (implMeetSets _ _ a b _ Ia Ib HLA.out HLB.out).mono ?_
        rintro e v2 ⟨xm, rfl, om, c2⟩
        have d2 := d1.trans (c2.mono d1.size)
        replace Ia := ints_below Ia c2
        replace Ib := ints_below Ib c2
        replace Iu := ints_below Iu c2
        clear d1
        have Im := ownsN_ints om
        clear om c2
        obtain ⟨pm, qm, rfl⟩ := ints_len Im
        go_wp2_with fail
        refine (implSubtractSets _ _ a b _ Ia Ib HLA.out HLB.out).mono ?_
        rintro e v3 ⟨xd, rfl, od, c3⟩
        have d3 := d2.trans (c3.mono d2.size)
        replace Ia := ints_below Ia c3
        replace Ib := ints_below Ib c3
        replace Iu := ints_below Iu c3
        replace Im := ints_below Im c3
        clear d2
        have Id := ownsN_ints od
        clear od c3
        obtain ⟨pd, qd, rfl⟩ := ints_len Id
        go_wp2_with fail
        refine (specUnite _ _ a b _ Ia Ib HLA.out HLB.out).mono ?_
        rintro e v4 ⟨r, rfl, or, c4⟩
        have d4 := d3.trans (c4.mono d3.size)
        replace Ia := ints_below Ia c4
        replace Ib := ints_below Ib c4
        replace Iu := ints_below Iu c4
        replace Im := ints_below Im c4
        replace Id := ints_below Id c4
        clear d3
        have Ir := ownsN_ints or
        clear or c4
        go_wp2_with fail
        refine (sameL _ _ _ _ Iu Ir HLu.out).mono ?_
        rintro e v5 ⟨rfl, c5⟩
        have d5 := d4.trans (c5.mono d4.size)
        replace Ia := ints_below Ia c5
        replace Ib := ints_below Ib c5
        replace Iu := ints_below Iu c5
        replace Im := ints_below Im c5
        replace Id := ints_below Id c5
        replace Ir := ints_below Ir c5
        clear d4 c5
        clear Ir
        go_wp2_with fail
        refine (specMeet _ _ a b _ Ia Ib HLA.out HLB.out).mono ?_
        rintro e v6 ⟨r, rfl, or, c6⟩
        have d6 := d5.trans (c6.mono d5.size)
        replace Ia := ints_below Ia c6
        replace Ib := ints_below Ib c6
        replace Iu := ints_below Iu c6
        replace Im := ints_below Im c6
        replace Id := ints_below Id c6
        clear d5
        have Ir := ownsN_ints or
        clear or c6
        go_wp2_with fail
        refine (sameL _ _ _ _ Im Ir HLm.out).mono ?_
        rintro e v7 ⟨rfl, c7⟩
        have d7 := d6.trans (c7.mono d6.size)
        replace Ia := ints_below Ia c7
        replace Ib := ints_below Ib c7
        replace Iu := ints_below Iu c7
        replace Im := ints_below Im c7
        replace Id := ints_below Id c7
        replace Ir := ints_below Ir c7
        clear d6 c7
        clear Ir
        go_wp2_with fail
        refine (specSub _ _ a b _ Ia Ib HLA.out HLB.out).mono ?_
        rintro e v8 ⟨r, rfl, or, c8⟩
        have d8 := d7.trans (c8.mono d7.size)
        replace Ia := ints_below Ia c8
        replace Ib := ints_below Ib c8
        replace Iu := ints_below Iu c8
        replace Im := ints_below Im c8
        replace Id := ints_below Id c8
        clear d7
        have Ir := ownsN_ints or
        clear or c8
        go_wp2_with fail
        refine (sameL _ _ _ _ Id Ir HLd.out).mono ?_
        rintro e v9 ⟨rfl, c9⟩
        have d9 := d8.trans (c9.mono d8.size)
        replace Ia := ints_below Ia c9
        replace Ib := ints_below Ib c9
        replace Iu := ints_below Iu c9
        replace Im := ints_below Im c9
        replace Id := ints_below Id c9
        replace Ir := ints_below Ir c9
        clear d8 c9
        clear Ir
        go_wp2_with fail
        refine (implIsSet _ a _ Ia HLA.out).mono ?_
        rintro e v10 ⟨rfl, c10⟩
        have d10 := d9.trans (c10.mono d9.size)
        replace Ia := ints_below Ia c10
        replace Ib := ints_below Ib c10
        replace Iu := ints_below Iu c10
        replace Im := ints_below Im c10
        replace Id := ints_below Id c10
        clear d9 c10
        go_wp2_with fail
        refine (specIsSet _ a _ Ia HLA.out).mono ?_
        rintro e v11 ⟨rfl, c11⟩
        have d11 := d10.trans (c11.mono d10.size)
        replace Ia := ints_below Ia c11
        replace Ib := ints_below Ib c11
        replace Iu := ints_below Iu c11
        replace Im := ints_below Im c11
        replace Id := ints_below Id c11
        clear d10 c11
        go_wp2_with fail
        refine (implFormatSet _ a _ Ia (HZ.out.on d11) HLA.out).mono ?_
        rintro e v12 ⟨rfl, c12⟩
        have d12 := d11.trans (c12.mono d11.size)
        replace Ia := ints_below Ia c12
        replace Ib := ints_below Ib c12
        replace Iu := ints_below Iu c12
        replace Im := ints_below Im c12
        replace Id := ints_below Id c12
        clear d11 c12
        go_wp2_with fail
        refine (HPAR.out _ (HT.out.on d12) (HZ.out.on d12)).mono ?_
        rintro e v13 ⟨xx, rfl, ox, c13⟩
        have d13 := d12.trans (c13.mono d12.size)
        replace Ia := ints_below Ia c13
        replace Ib := ints_below Ib c13
        replace Iu := ints_below Iu c13
        replace Im := ints_below Im c13
        replace Id := ints_below Id c13
        clear d12
        have Ix := ownsN_ints ox
        clear ox c13
        go_wp2_with fail
        refine (HFMT.out _ _ Ia).mono ?_
        rintro e v14 ⟨rfl, c14⟩
        have d14 := d13.trans (c14.mono d13.size)
        replace Ia := ints_below Ia c14
        replace Ib := ints_below Ib c14
        replace Iu := ints_below Iu c14
        replace Im := ints_below Im c14
        replace Id := ints_below Id c14
        replace Ix := ints_below Ix c14
        clear d13 c14
        have heq := HEQ.out
        go_wp2_with fail
        refine (specIsSet _ a _ Ia HLA.out).mono ?_
        rintro e v15 ⟨rfl, c15⟩
        have d15 := d14.trans (c15.mono d14.size)
        replace Ia := ints_below Ia c15
        replace Ib := ints_below Ib c15
        replace Iu := ints_below Iu c15
        replace Im := ints_below Im c15
        replace Id := ints_below Id c15
        replace Ix := ints_below Ix c15
        clear d14 c15
        rw [HSA.out]
        go_wp2_with fail
        refine (sameL _ _ _ _ Ix Ia HLA.out).mono ?_
        rintro e v16 ⟨rfl, c16⟩
        have d16 := d15.trans (c16.mono d15.size)
        replace Ia := ints_below Ia c16
        replace Ib := ints_below Ib c16
        replace Iu := ints_below Iu c16
        replace Im := ints_below Im c16
        replace Id := ints_below Id c16
        replace Ix := ints_below Ix c16
        clear d15 c16
        clear Ix heq
        go_wp2_with fail
        refine (specIsSet _ a _ Ia HLA.out).mono ?_
        rintro e v17 ⟨rfl, c17⟩
        have d17 := d16.trans (c17.mono d16.size)
        replace Ia := ints_below Ia c17
        replace Ib := ints_below Ib c17
        replace Iu := ints_below Iu c17
        replace Im := ints_below Im c17
        replace Id := ints_below Id c17
        clear d16 c17
        rw [HSA.out]
        go_wp2_with fail
        refine (specIsSet _ b _ Ib HLB.out).mono ?_
        rintro e v18 ⟨rfl, c18⟩
        have d18 := d17.trans (c18.mono d17.size)
        replace Ia := ints_below Ia c18
        replace Ib := ints_below Ib c18
        replace Iu := ints_below Iu c18
        replace Im := ints_below Im c18
        replace Id := ints_below Id c18
        clear d17 c18
        rw [HSB.out]
        rw [E1.out, E2.out, E3.out]
        go_wp2
        go_ret
        exact ⟨rfl, d18⟩
      | true =>
        have HSB := Lib.hid hsb
        have MU := Lib.hid (fun i hi => mem_unite hsa hsb i hi)
        have MM := Lib.hid (fun x => mem_meet hsa hsb x)
        have MD := Lib.hid (fun x => mem_sub hsa hsb x)
        have SU := Lib.hid (unite_set a b)
        have LU := Lib.hid (len_unite hsa hsb)
        clear hsa hsb
        go_wp2_with fail
        refine (implUniteSets _ _ a b _ Ia Ib HLA.out HLB.out).mono ?_
        rintro e v1 ⟨xu, rfl, ou, c1⟩
        have d1 := b1.trans (c1.mono b1.size)
        replace Ia := ints_below Ia c1
        replace Ib := ints_below Ib c1
        clear b1
        have Iu := ownsN_ints ou
        clear ou c1
        obtain ⟨pu, qu, rfl⟩ := ints_len Iu
        go_wp2_with fail
        refine (implMeetSets _ _ a b _ Ia Ib HLA.out HLB.out).mono ?_
        rintro e v2 ⟨xm, rfl, om, c2⟩
        have d2 := d1.trans (c2.mono d1.size)
        replace Ia := ints_below Ia c2
        replace Ib := ints_below Ib c2
        replace Iu := ints_below Iu c2
        clear d1
        have Im := ownsN_ints om
        clear om c2
        obtain ⟨pm, qm, rfl⟩ := ints_len Im
        go_wp2_with fail
        refine (implSubtractSets _ _ a b _ Ia Ib HLA.out HLB.out).mono ?_
        rintro e v3 ⟨xd, rfl, od, c3⟩
        have d3 := d2.trans (c3.mono d2.size)
        replace Ia := ints_below Ia c3
        replace Ib := ints_below Ib c3
        replace Iu := ints_below Iu c3
        replace Im := ints_below Im c3
        clear d2
        have Id := ownsN_ints od
        clear od c3
        obtain ⟨pd, qd, rfl⟩ := ints_len Id
        go_wp2_with fail
        refine (specUnite _ _ a b _ Ia Ib HLA.out HLB.out).mono ?_
        rintro e v4 ⟨r, rfl, or, c4⟩
        have d4 := d3.trans (c4.mono d3.size)
        replace Ia := ints_below Ia c4
        replace Ib := ints_below Ib c4
        replace Iu := ints_below Iu c4
        replace Im := ints_below Im c4
        replace Id := ints_below Id c4
        clear d3
        have Ir := ownsN_ints or
        clear or c4
        go_wp2_with fail
        refine (sameL _ _ _ _ Iu Ir HLu.out).mono ?_
        rintro e v5 ⟨rfl, c5⟩
        have d5 := d4.trans (c5.mono d4.size)
        replace Ia := ints_below Ia c5
        replace Ib := ints_below Ib c5
        replace Iu := ints_below Iu c5
        replace Im := ints_below Im c5
        replace Id := ints_below Id c5
        replace Ir := ints_below Ir c5
        clear d4 c5
        clear Ir
        go_wp2_with fail
        refine (specMeet _ _ a b _ Ia Ib HLA.out HLB.out).mono ?_
        rintro e v6 ⟨r, rfl, or, c6⟩
        have d6 := d5.trans (c6.mono d5.size)
        replace Ia := ints_below Ia c6
        replace Ib := ints_below Ib c6
        replace Iu := ints_below Iu c6
        replace Im := ints_below Im c6
        replace Id := ints_below Id c6
        clear d5
        have Ir := ownsN_ints or
        clear or c6
        go_wp2_with fail
        refine (sameL _ _ _ _ Im Ir HLm.out).mono ?_
        rintro e v7 ⟨rfl, c7⟩
        have d7 := d6.trans (c7.mono d6.size)
        replace Ia := ints_below Ia c7
        replace Ib := ints_below Ib c7
        replace Iu := ints_below Iu c7
        replace Im := ints_below Im c7
        replace Id := ints_below Id c7
        replace Ir := ints_below Ir c7
        clear d6 c7
        clear Ir
        go_wp2_with fail
        refine (specSub _ _ a b _ Ia Ib HLA.out HLB.out).mono ?_
        rintro e v8 ⟨r, rfl, or, c8⟩
        have d8 := d7.trans (c8.mono d7.size)
        replace Ia := ints_below Ia c8
        replace Ib := ints_below Ib c8
        replace Iu := ints_below Iu c8
        replace Im := ints_below Im c8
        replace Id := ints_below Id c8
        clear d7
        have Ir := ownsN_ints or
        clear or c8
        go_wp2_with fail
        refine (sameL _ _ _ _ Id Ir HLd.out).mono ?_
        rintro e v9 ⟨rfl, c9⟩
        have d9 := d8.trans (c9.mono d8.size)
        replace Ia := ints_below Ia c9
        replace Ib := ints_below Ib c9
        replace Iu := ints_below Iu c9
        replace Im := ints_below Im c9
        replace Id := ints_below Id c9
        replace Ir := ints_below Ir c9
        clear d8 c9
        clear Ir
        go_wp2_with fail
        refine (implIsSet _ a _ Ia HLA.out).mono ?_
        rintro e v10 ⟨rfl, c10⟩
        have d10 := d9.trans (c10.mono d9.size)
        replace Ia := ints_below Ia c10
        replace Ib := ints_below Ib c10
        replace Iu := ints_below Iu c10
        replace Im := ints_below Im c10
        replace Id := ints_below Id c10
        clear d9 c10
        go_wp2_with fail
        refine (specIsSet _ a _ Ia HLA.out).mono ?_
        rintro e v11 ⟨rfl, c11⟩
        have d11 := d10.trans (c11.mono d10.size)
        replace Ia := ints_below Ia c11
        replace Ib := ints_below Ib c11
        replace Iu := ints_below Iu c11
        replace Im := ints_below Im c11
        replace Id := ints_below Id c11
        clear d10 c11
        go_wp2_with fail
        refine (implFormatSet _ a _ Ia (HZ.out.on d11) HLA.out).mono ?_
        rintro e v12 ⟨rfl, c12⟩
        have d12 := d11.trans (c12.mono d11.size)
        replace Ia := ints_below Ia c12
        replace Ib := ints_below Ib c12
        replace Iu := ints_below Iu c12
        replace Im := ints_below Im c12
        replace Id := ints_below Id c12
        clear d11 c12
        go_wp2_with fail
        refine (HPAR.out _ (HT.out.on d12) (HZ.out.on d12)).mono ?_
        rintro e v13 ⟨xx, rfl, ox, c13⟩
        have d13 := d12.trans (c13.mono d12.size)
        replace Ia := ints_below Ia c13
        replace Ib := ints_below Ib c13
        replace Iu := ints_below Iu c13
        replace Im := ints_below Im c13
        replace Id := ints_below Id c13
        clear d12
        have Ix := ownsN_ints ox
        clear ox c13
        go_wp2_with fail
        refine (HFMT.out _ _ Ia).mono ?_
        rintro e v14 ⟨rfl, c14⟩
        have d14 := d13.trans (c14.mono d13.size)
        replace Ia := ints_below Ia c14
        replace Ib := ints_below Ib c14
        replace Iu := ints_below Iu c14
        replace Im := ints_below Im c14
        replace Id := ints_below Id c14
        replace Ix := ints_below Ix c14
        clear d13 c14
        have heq := HEQ.out
        go_wp2_with fail
        refine (specIsSet _ a _ Ia HLA.out).mono ?_
        rintro e v15 ⟨rfl, c15⟩
        have d15 := d14.trans (c15.mono d14.size)
        replace Ia := ints_below Ia c15
        replace Ib := ints_below Ib c15
        replace Iu := ints_below Iu c15
        replace Im := ints_below Im c15
        replace Id := ints_below Id c15
        replace Ix := ints_below Ix c15
        clear d14 c15
        rw [HSA.out]
        go_wp2_with fail
        refine (sameL _ _ _ _ Ix Ia HLA.out).mono ?_
        rintro e v16 ⟨rfl, c16⟩
        have d16 := d15.trans (c16.mono d15.size)
        replace Ia := ints_below Ia c16
        replace Ib := ints_below Ib c16
        replace Iu := ints_below Iu c16
        replace Im := ints_below Im c16
        replace Id := ints_below Id c16
        replace Ix := ints_below Ix c16
        clear d15 c16
        clear Ix heq
        go_wp2_with fail
        refine (specIsSet _ a _ Ia HLA.out).mono ?_
        rintro e v17 ⟨rfl, c17⟩
        have d17 := d16.trans (c17.mono d16.size)
        replace Ia := ints_below Ia c17
        replace Ib := ints_below Ib c17
        replace Iu := ints_below Iu c17
        replace Im := ints_below Im c17
        replace Id := ints_below Id c17
        clear d16 c17
        rw [HSA.out]
        go_wp2_with fail
        refine (specIsSet _ b _ Ib HLB.out).mono ?_
        rintro e v18 ⟨rfl, c18⟩
        have d18 := d17.trans (c18.mono d17.size)
        replace Ia := ints_below Ia c18
        replace Ib := ints_below Ib c18
        replace Iu := ints_below Iu c18
        replace Im := ints_below Im c18
        replace Id := ints_below Id c18
        clear d17 c18
        rw [HSB.out]
        go_wp2_with fail
        go_loopw [11] (fun i wr => ∃ k : Nat, k ≤ 24 ∧ i = .int .i64 k ∧ Ints wr (.slice pa a.length qa) a ∧ Ints wr (.slice pb b.length qb) b ∧ Ints wr (.slice pu (uniteL a b).length qu) (uniteL a b) ∧ Ints wr (.slice pm (meetL a b).length qm) (meetL a b) ∧ Ints wr (.slice pd (subL a b).length qd) (subL a b) ∧ Below wx.heap.size wx wr) (fun i _ => 24 - (intOf i).toNat)
        case atStart => exact ⟨0, Nat.zero_le _, rfl, Ia, Ib, Iu, Im, Id, d18⟩
        case round =>
          clear Ia Ib Iu Im Id d18
          obtain ⟨k, hk, rfl, Ia, Ib, Iu, Im, Id, bz⟩ := hrel
          by_cases hlt : k < 24
          · have m1 := MU.out k hlt
            have m2 := MM.out (k : Int)
            have m3 := MD.out (k : Int)
            have HA := Lib.hid (fun v w h => implHas v a (k : Int) w h HLA.out)
            have HB := Lib.hid (fun v w h => implHas v b (k : Int) w h HLB.out)
            have HU := Lib.hid (fun v w h => hasL v (uniteL a b) (k : Int) w h HLu.out)
            have HM := Lib.hid (fun v w h => hasL v (meetL a b) (k : Int) w h HLm.out)
            have HDD := Lib.hid (fun v w h => hasL v (subL a b) (k : Int) w h HLd.out)
            rw [m1] at HU
            rw [m2] at HM
            rw [m3] at HDD
            clear m1 m2 m3
            generalize decide ((k : Int) ∈ a) = x at *
            generalize decide ((k : Int) ∈ b) = y at *
            cases x <;> cases y
            all_goals
              simp only [Bool.or_true, Bool.or_false, Bool.and_true, Bool.and_false, Bool.not_true, Bool.not_false, Bool.or_self, Bool.and_self] at HU HM HDD
              go_wp2_with fail
              refine (HA.out _ _ Ia).mono ?_
              rintro e v101 ⟨rfl, c101⟩
              have d101 := bz.trans (c101.mono bz.size)
              replace Ia := ints_below Ia c101
              replace Ib := ints_below Ib c101
              replace Iu := ints_below Iu c101
              replace Im := ints_below Im c101
              replace Id := ints_below Id c101
              clear bz c101
              go_wp2_with fail
              refine (HB.out _ _ Ib).mono ?_
              rintro e v102 ⟨rfl, c102⟩
              have d102 := d101.trans (c102.mono d101.size)
              replace Ia := ints_below Ia c102
              replace Ib := ints_below Ib c102
              replace Iu := ints_below Iu c102
              replace Im := ints_below Im c102
              replace Id := ints_below Id c102
              clear d101 c102
              go_wp2_with fail
              refine (HU.out _ _ Iu).mono ?_
              rintro e v103 ⟨rfl, c103⟩
              have d103 := d102.trans (c103.mono d102.size)
              replace Ia := ints_below Ia c103
              replace Ib := ints_below Ib c103
              replace Iu := ints_below Iu c103
              replace Im := ints_below Im c103
              replace Id := ints_below Id c103
              clear d102 c103
              go_wp2_with fail
              refine (HM.out _ _ Im).mono ?_
              rintro e v104 ⟨rfl, c104⟩
              have d104 := d103.trans (c104.mono d103.size)
              replace Ia := ints_below Ia c104
              replace Ib := ints_below Ib c104
              replace Iu := ints_below Iu c104
              replace Im := ints_below Im c104
              replace Id := ints_below Id c104
              clear d103 c104
              go_wp2_with fail
              refine (HDD.out _ _ Id).mono ?_
              rintro e v105 ⟨rfl, c105⟩
              have d105 := d104.trans (c105.mono d104.size)
              replace Ia := ints_below Ia c105
              replace Ib := ints_below Ib c105
              replace Iu := ints_below Iu c105
              replace Im := ints_below Im c105
              replace Id := ints_below Id c105
              clear d104 c105
              go_wp2
              go_roundw
              case rel => exact ⟨k + 1, by omega, by go_num, Ia, Ib, Iu, Im, Id, d105⟩
              case measure => simp [intOf]; omega
          · obtain rfl : k = 24 := by omega
            have hlen : ((uniteL a b).length : Int) + ((meetL a b).length : Int) = (a.length : Int) + (b.length : Int) := by have := LU.out; omega
            have hLu := HLu.out
            have hLm := HLm.out
            have hLa := HLA.out
            have hLb := HLB.out
            have HIS := Lib.hid (fun v w h => implIsSet v (uniteL a b) w h HLu.out)
            rw [SU.out] at HIS
            generalize (uniteL a b).length = lu at *
            generalize (meetL a b).length = lm at *
            generalize hlaa : a.length = la at *
            generalize hlbb : b.length = lb at *
            have hs1 : ((lu : Int) + (lm : Int) == (la : Int) + (lb : Int)) = true := by rw [hlen]; simp
            go_wp2_with fail
            refine (HIS.out _ _ Iu).mono ?_
            rintro e v106 ⟨rfl, c106⟩
            have d106 := bz.trans (c106.mono bz.size)
            replace Ia := ints_below Ia c106
            replace Ib := ints_below Ib c106
            replace Iu := ints_below Iu c106
            replace Im := ints_below Im c106
            replace Id := ints_below Id c106
            clear bz c106
            go_wp2
            go_ret
            exact ⟨rfl, d106⟩
  · have hbig : decide ((1048576 : Int) < (xs.length : Int)) = true := decide_eq_true (by omega)
    have HBIG := Lib.hid (bigL p cap xs.length w)
    rw [hbig] at HBIG
    clear hcode hby hl hbig hZ hT
    generalize xs.length = n at *
    go_enter Tryd.func3, Tryd.ntmps3
    go_wp2_with fail
    refine HBIG.out.mono ?_
    rintro e wx ⟨rfl, rfl⟩
    go_wp2
    go_ret
    exact ⟨rfl, Below.refl _ _⟩
end Go.Proofs.YtnfmhiephdhopaaDoor
namespace Go.Proofs.YtnfmhiephdhopaaDoor
open Go.ChangeShapes Go.WideShapes Go.ChangeAt Go.WideMaps Go.WideElems Go.RowKit
set_option linter.unusedVariables false
theorem cU8c : Tryd.prog.cellsOf 5 = 1 := by kernel_rfl
theorem laidOut : laidOutB Tryd.prog = true := by kernel_rfl
theorem recCode : Tryd.prog.readableRec 22 = true := by kernel_rfl
theorem rowCode : 22 < Tryd.prog.types.size := of_decide_eq_true (by kernel_rfl)
set_option maxRecDepth 100000 in
/-- A slice of bytes that came in reads as bytes. -/
theorem code_open {H : Type} {enc : TypeId × Value → H} {W : World} {r : Reach} {b0 : Nat} {v : Value} {d : DataW H} {p : List MemPlace} (hval : Value.okWide Tryd.prog W r b0 22 v) (h : DataW.Trod enc Tryd.prog W 0 (fun _ => true) true 22 v d p) :
    ∃ a xs cap, v = .slice a xs.length cap ∧ Code W v xs ∧ ∀ x ∈ xs, 0 ≤ x ∧ x ≤ 255 := by
  obtain ⟨a, len, cap, rfl⟩ := okWide_slice Tryd.underlying22 hval
  obtain ⟨fuel, hf⟩ := h
  rcases open_ints Tryd.underlying22 Tryd.underlying5 cU8c hf with ⟨hcs, _⟩ | ⟨a', len', cap', zs, hcs, _, hl, hm, hz, _, hcell, hwz⟩
  · simp [Value.cells] at hcs
    obtain ⟨rfl, rfl, rfl⟩ := hcs
    exact ⟨none, [], 0, rfl, Or.inl ⟨rfl, none, 0, rfl⟩, by simp⟩
  · simp [Value.cells] at hcs
    obtain ⟨rfl, rfl, rfl⟩ := hcs
    rw [if_pos rfl] at hz
    have hb : ∀ x ∈ zs.take len, 0 ≤ x ∧ x ≤ 255 := fun x hx => by
      have h1 := hwz x (List.mem_of_mem_take hx)
      have e0 : IntKind.u8.min = 0 := by decide
      have e1 : IntKind.u8.max = 255 := by decide
      simp [Lit.wf] at h1; omega
    have hlen : (zs.take len).length = len := by rw [List.length_take]; omega
    refine ⟨some a', zs.take len, cap, by rw [hlen], ?_, hb⟩
    by_cases h0 : len = 0
    · subst h0
      exact Or.inl ⟨rfl, some a', cap, rfl⟩
    · obtain ⟨b, off, rfl, hc⟩ := ints_at hcell (by omega)
      refine Or.inr ⟨b, off, cap, by rw [hlen], by omega, ?_, ?_⟩
      · exact World.block_lt_of_cell? W _ (hc 0 (by omega))
      · intro j hj
        rw [hlen] at hj
        rw [hc j (by omega)]
        simp [List.getD, hj]
end Go.Proofs.YtnfmhiephdhopaaDoor
