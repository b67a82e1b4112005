/-
  The walk of the program's parseMask.
-/
import Derived.Test.YtecfhgfjfnjagaaDoorSplit
namespace Go.Proofs.YtecfhgfjfnjagaaDoor
open Go.RowKit Go.Shelf
attribute [local go_sem] Oper.semAt_some
set_option linter.unusedVariables false
/-- What parseMask answers. -/
def mskAns (l : List UInt8) : Value := if l = [110, 111, 110, 101] then .tuple #[.int .u32 0, .bool true] else match mskGo 0 (cutL 32 l) with
  | none => .tuple #[.int .u32 0, .bool false]
  | some m => .tuple #[.int .u32 (m : Nat), .bool true]
theorem boxed_below {W W' : World} {C j : Nat} {t : TypeId} {v : Value} (h : Boxed W j t v) (hj : j < C) (hb : Below C W W') : Boxed W' j t v := (hb.block j hj).trans h
theorem mskAns_no {l : List UInt8} (h : ¬ l = [110, 111, 110, 101]) (hg : mskGo 0 (cutL 32 l) = none) : mskAns l = .tuple #[.int .u32 0, .bool false] := by unfold mskAns; rw [if_neg h, hg]
theorem mskAns_yes {l : List UInt8} {m : Nat} (h : ¬ l = [110, 111, 110, 101]) (hg : mskGo 0 (cutL 32 l) = some m) : mskAns l = .tuple #[.int .u32 (m : Nat), .bool true] := by unfold mskAns; rw [if_neg h, hg]
theorem mskGo_hit {m : Nat} {P : List (List UInt8)} {k : Nat} (hk : k < P.length) (h : partOk (cutL 45 (P.getD k [])) = true) : mskGo m (P.drop k) = mskGo (m ||| partMask (cutL 45 (P.getD k []))) (P.drop (k + 1)) := by
  have e : P.getD k [] = P[k] := by simp [List.getD, hk]
  rw [e] at h
  rw [List.drop_eq_getElem_cons hk, e]
  show (if partOk (cutL 45 P[k]) = true then _ else _) = _
  rw [if_pos h]
theorem mskGo_miss {m : Nat} {P : List (List UInt8)} {k : Nat} (hk : k < P.length) (h : partOk (cutL 45 (P.getD k [])) = false) : mskGo m (P.drop k) = none := by
  have e : P.getD k [] = P[k] := by simp [List.getD, hk]
  rw [e] at h
  rw [List.drop_eq_getElem_cons hk]
  show (if partOk (cutL 45 P[k]) = true then _ else _) = _
  rw [h]; rfl
theorem partMask_lt {ps : List (List UInt8)} (h : partOk ps = true) : partMask ps < 16777216 := by
  obtain ⟨f, t, _, h2, _, _, h5, _⟩ := partOk_range h
  rw [h5]; exact rangeM_lt h2
set_option maxHeartbeats 4000000 in
set_option maxRecDepth 100000 in
theorem implParseMask (l : List UInt8) (w : World) (hl : l.length ≤ 1048576) (hT : Tab w) :
    Calls Tryd.prog 34 #[.string (strB l)] w fun e w' => e = .returned (mskAns l) ∧ Below w.heap.size w w' := by
  refine (callsIn_wide (n := 6)).1 ?_
  by_cases hnone : l = [110, 111, 110, 101]
  · have HA : Hid (mskAns l = .tuple #[.int .u32 0, .bool true]) := Lib.hid (by unfold mskAns; rw [if_pos hnone])
    have e0 : strB l = ⟨#[110, 111, 110, 101]⟩ := by rw [hnone]; rfl
    rw [e0]
    clear hnone e0 hl hT
    refine callsIn_of_wp_marks Tryd.func34 rfl trivial ?_ rfl
    simp only [Tryd.ntmps34, List.size_toArray, List.length_cons, List.length_nil, Nat.reduceAdd, Nat.reduceSub, Array.replicate_succ, Array.replicate_zero, List.push_toArray, List.append_toArray, List.nil_append, List.cons_append]
    gi_wp2
    have k0 : Boxed (((w.alloc (.cells #[.int .u32 0] 38)).alloc (.cells #[.bool true] 4)).alloc (.cells #[.int .u32 0] 38)) w.heap.size 38 (.int .u32 0) := ((Boxed.new w _ _).alloc _).alloc _
    have k1 : Boxed (((w.alloc (.cells #[.int .u32 0] 38)).alloc (.cells #[.bool true] 4)).alloc (.cells #[.int .u32 0] 38)) (w.heap.size + 1) 4 (.bool true) := by
      have := Boxed.new (w.alloc (.cells #[.int .u32 0] 38)) 4 (.bool true)
      simp only [World.size_alloc] at this
      exact this.alloc _
    have kb : Below w.heap.size w (((w.alloc (.cells #[.int .u32 0] 38)).alloc (.cells #[.bool true] 4)).alloc (.cells #[.int .u32 0] 38)) := (((Below.refl _ w).alloc (Nat.le_refl _) _).alloc (by simp) _).alloc (by simp; omega) _
    generalize (((w.alloc (.cells #[.int .u32 0] 38)).alloc (.cells #[.bool true] 4)).alloc (.cells #[.int .u32 0] 38)) = W5 at *
    have e0 := k0.cell
    have e1 := k1.cell
    refine ⟨_, ?_, ret_v HA.out.symm, kb⟩
    simp [results, Tryd.f34, go_sem, e0, e1]
  · have f1 : ((strB l).toList == [110, 111, 110, 101]) = false := by rw [strB_toList, beq_eq_false_iff_ne]; exact hnone
    refine callsIn_of_wp_marks Tryd.func34 rfl trivial ?_ rfl
    simp only [Tryd.ntmps34, List.size_toArray, List.length_cons, List.length_nil, Nat.reduceAdd, Nat.reduceSub, Array.replicate_succ, Array.replicate_zero, List.push_toArray, List.append_toArray, List.nil_append, List.cons_append]
    gi_wp2_with (refine ⟨trivial, ?_⟩; gi_at_call 47; refine (callsIn_wide.2 (splitSeq0 _ _ _)).mono ?_; rintro e w' ⟨rfl, rfl⟩)
    have HNO := Lib.hid hnone
    have HT := Lib.hid hT
    have HQ : Hid (∀ k, ((cutL 32 l).getD k []).length ≤ 1048576) := Lib.hid (fun k => Nat.le_trans (cut_piece 32 l k) hl)
    have HSP := splitStops 5 (w.heap.size + 1 + 1 + 1) (w.heap.size + 1 + 1 + 1 + 1) (w.heap.size + 1 + 1 + 1 + 2) (by omega) l hl
    obtain ⟨W0, hW0⟩ : ∃ W0, ((((((w.alloc (.cells #[.int .u32 0] 38)).alloc (.cells #[.bool false] 4)).alloc (.cells #[.int .u32 0] 38)).alloc (.cells #[.string (strB l)] 9)).alloc (.cells #[.string ⟨#[32]⟩] 9)).alloc (.cells #[.int .i64 0] 3)) = W0 := ⟨_, rfl⟩
    rw [hW0]
    have x0 : Boxed W0 w.heap.size 38 (.int .u32 0) := by rw [← hW0]; exact (((((Boxed.new w _ _).alloc _).alloc _).alloc _).alloc _).alloc _
    have x1 : Boxed W0 (w.heap.size + 1) 4 (.bool false) := by
      have := Boxed.new (w.alloc (.cells #[.int .u32 0] 38)) 4 (.bool false)
      simp only [World.size_alloc] at this
      rw [← hW0]; exact ((((this.alloc _).alloc _).alloc _).alloc _)
    have x2 : Boxed W0 (w.heap.size + 1 + 1) 38 (.int .u32 ((0 : Nat) : Int)) := by
      have := Boxed.new ((w.alloc (.cells #[.int .u32 0] 38)).alloc (.cells #[.bool false] 4)) 38 (.int .u32 0)
      simp only [World.size_alloc] at this
      rw [← hW0]; exact (((this.alloc _).alloc _).alloc _)
    have x3 : Boxed W0 (w.heap.size + 1 + 1 + 1) 9 (.string (strB l)) := by
      have := Boxed.new (((w.alloc (.cells #[.int .u32 0] 38)).alloc (.cells #[.bool false] 4)).alloc (.cells #[.int .u32 0] 38)) 9 (.string (strB l))
      simp only [World.size_alloc] at this
      rw [← hW0]; exact ((this.alloc _).alloc _)
    have x4 : Boxed W0 (w.heap.size + 1 + 1 + 1 + 1) 9 (.string ⟨#[32]⟩) := by
      have := Boxed.new ((((w.alloc (.cells #[.int .u32 0] 38)).alloc (.cells #[.bool false] 4)).alloc (.cells #[.int .u32 0] 38)).alloc (.cells #[.string (strB l)] 9)) 9 (.string ⟨#[32]⟩)
      simp only [World.size_alloc] at this
      rw [← hW0]; exact this.alloc _
    have x5 : Boxed W0 (w.heap.size + 1 + 1 + 1 + 2) 3 (.int .i64 0) := by
      have := Boxed.new (((((w.alloc (.cells #[.int .u32 0] 38)).alloc (.cells #[.bool false] 4)).alloc (.cells #[.int .u32 0] 38)).alloc (.cells #[.string (strB l)] 9)).alloc (.cells #[.string ⟨#[32]⟩] 9)) 3 (.int .i64 0)
      simp only [World.size_alloc] at this
      rw [← hW0]; exact this
    have xs : W0.heap.size = w.heap.size + 1 + 1 + 1 + 3 := by rw [← hW0]; simp [World.size_alloc]
    have xb : Below w.heap.size w W0 := by
      rw [← hW0]
      exact ((((((Below.refl _ w).alloc (Nat.le_refl _) _).alloc (by simp) _).alloc (by simp; omega) _).alloc (by simp; omega) _).alloc (by simp; omega) _).alloc (by simp; omega) _
    clear hW0 hnone hT f1 hl
    refine rangeSplit (by omega) (w.heap.size + 1 + 1 + 1) l rfl xs HSP x3 x4 x5
      (fun k W => ∃ m : Nat, m < 16777216 ∧ Hid (mskGo m ((cutL 32 l).drop k) = mskGo 0 (cutL 32 l)) ∧ Boxed W w.heap.size 38 (.int .u32 0) ∧ Boxed W (w.heap.size + 1) 4 (.bool false) ∧ Boxed W (w.heap.size + 1 + 1) 38 (.int .u32 (m : Int)) ∧ Below w.heap.size w W)
      (fun W => Hid (mskGo 0 (cutL 32 l) = none) ∧ Boxed W w.heap.size 38 (.int .u32 0) ∧ Boxed W (w.heap.size + 1) 4 (.bool false) ∧ Below w.heap.size w W)
      ?hI ?hIx ⟨0, by omega, Lib.hid rfl, x0, x1, x2, xb⟩
      (fun x => { tmps := #[.string (strB l), undef, .pointer (some ⟨w.heap.size, 0, none⟩), .pointer (some ⟨w.heap.size + 1, 0, none⟩), .pointer (some ⟨w.heap.size + 1 + 1, 0, none⟩), .string (strB x), undef, undef, .string (strB l), .bool false, undef, .string (strB l), .func (.func 66) #[] #[.pointer (some ⟨w.heap.size + 1 + 1 + 1 + 1, 0, none⟩), .pointer (some ⟨w.heap.size + 1 + 1 + 1, 0, none⟩), .pointer (some ⟨w.heap.size + 1 + 1 + 1 + 2, 0, none⟩)], .string (strB x), undef, undef, undef, undef, undef, undef, undef, undef, undef, undef, undef], defers := [] })
      rfl ?assign ?body ?done ?stop
    case hI =>
      rintro k W W' ⟨m, hm, hgo, b0, b1, b2, hbel⟩ hb
      exact ⟨m, hm, hgo, boxed_below b0 (by omega) hb, boxed_below b1 (by omega) hb, boxed_below b2 (by omega) hb, hbel.trans (hb.mono (by omega))⟩
    case hIx =>
      rintro W W' ⟨hgo, b0, b1, hbel⟩ hb
      exact ⟨hgo, boxed_below b0 (by omega) hb, boxed_below b1 (by omega) hb, hbel.trans (hb.mono (by omega))⟩
    case assign =>
      intro L x W K hK
      gi_wp2
      exact hK
    case body =>
      rintro L k W hk ⟨m, hm, hgo, b0, b1, b2, hbel⟩
      clear x0 x1 x2 x3 x4 x5 xs xb HSP
      have hsz : w.heap.size + 1 + 1 < W.heap.size := b2.lt
      have hQ := HQ.out k
      have HITK : Hid (partOk (cutL 45 ((cutL 32 l).getD k [])) = true → mskGo (m ||| partMask (cutL 45 ((cutL 32 l).getD k []))) ((cutL 32 l).drop (k + 1)) = mskGo 0 (cutL 32 l)) := Lib.hid (fun h => by rw [← mskGo_hit hk h]; exact hgo.out)
      have HMISS : Hid (partOk (cutL 45 ((cutL 32 l).getD k [])) = false → mskGo 0 (cutL 32 l) = none) := Lib.hid (fun h => by rw [← hgo.out]; exact mskGo_miss hk h)
      generalize (cutL 32 l).getD k [] = q at *
      have HRUN := Lib.hid (implParseRun q W hQ (HT.out.on hbel))
      cases hpo : partOk (cutL 45 q) with
      | true =>
        have hra : runAns q = .tuple #[.int .u32 ((partMask (cutL 45 q) : Nat) : Int), .bool true] := by unfold runAns; rw [if_pos hpo]
        have hpm := partMask_lt hpo
        have HG := Lib.hid (HITK.out hpo)
        have HOR := Lib.hid (or_u32 m (partMask (cutL 45 q)) (by omega) (by omega))
        have HLT : Hid (m ||| partMask (cutL 45 q) < 16777216) := Lib.hid (Nat.or_lt_two_pow (n := 24) hm hpm)
        rw [hra] at HRUN
        clear hra hpm hpo HITK HMISS hgo hQ
        generalize partMask (cutL 45 q) = pm at *
        gi_wp2_with (refine ⟨trivial, ?_⟩; gi_at_call 48; refine (CallsIn.inRound L (callsIn_wide.2 HRUN.out)).mono ?_; rintro e w1 ⟨rfl, hb⟩; have k0 := boxed_below b0 (by omega) hb; have k1 := boxed_below b1 (by omega) hb; have k2 := boxed_below b2 (by omega) hb; have c2 := k2.cell; have f2 := k2.frozen)
        exact ⟨(stays_below hb).trans (stays_set (by omega) _), m ||| pm, HLT.out, HG, k0.other (by omega) _, k1.other (by omega) _, by rw [HOR.out]; exact k2.set _, (hbel.trans (hb.mono (by omega))).setCell (p := ⟨_, 0, none⟩) (by simp; omega) _⟩
      | false =>
        have hra : runAns q = .tuple #[.int .u32 0, .bool false] := by unfold runAns; rw [if_neg (by rw [hpo]; exact Bool.noConfusion)]
        have HG := Lib.hid (HMISS.out hpo)
        rw [hra] at HRUN
        clear hra hpo HITK HMISS hgo hQ
        gi_wp2_with (refine ⟨trivial, ?_⟩; gi_at_call 48; refine (CallsIn.inRound L (callsIn_wide.2 HRUN.out)).mono ?_; rintro e w1 ⟨rfl, hb⟩; have k0 := boxed_below b0 (by omega) hb; have k1 := boxed_below b1 (by omega) hb; have c0 := k0.cell; have f0 := k0.frozen; have c1 := k1.cell; have f1 := k1.frozen)
        exact ⟨((stays_below hb).trans (stays_set (by omega) _)).trans (stays_set (by omega) _), HG, (k0.set _).other (by omega) _, (k1.other (by omega) _).set _, ((hbel.trans (hb.mono (by omega))).setCell (p := ⟨_, 0, none⟩) (by simp) _).setCell (p := ⟨_, 0, none⟩) (by simp) _⟩
    case done =>
      rintro D W hD ⟨m, hm, hgo, b0, b1, b2, hbel⟩ hK
      clear x0 x1 x2 x3 x4 x5 xs xb HSP
      have HA : Hid (mskAns l = .tuple #[.int .u32 (m : Nat), .bool true]) := Lib.hid (mskAns_yes HNO.out (by have := hgo.out; rw [List.drop_eq_nil_of_le (Nat.le_refl _)] at this; exact this.symm))
      have c0 := b0.cell
      have f0 := b0.frozen
      have c1 := b1.cell
      have f1 := b1.frozen
      have c2 := b2.cell
      clear hgo
      gi_wp2
      have k0 := (b0.set (.int .u32 (m : Int))).other (B' := w.heap.size + 1) (by omega) (.bool true)
      have k1 := (b1.other (B' := w.heap.size) (by omega) (.int .u32 (m : Int))).set (.bool true)
      have hKD : ((W.setCell ⟨w.heap.size, 0, none⟩ (.int .u32 (m : Int))).setCell ⟨w.heap.size + 1, 0, none⟩ (.bool true)).heap[D]? = some (.deferred (some [])) :=
        ((Below.heap_setCell _ _ _ D (by simp; omega)).trans (Below.heap_setCell _ _ _ D (by simp; omega))).trans hK
      have hbel5 : Below w.heap.size w ((W.setCell ⟨w.heap.size, 0, none⟩ (.int .u32 (m : Int))).setCell ⟨w.heap.size + 1, 0, none⟩ (.bool true)) := (hbel.setCell (p := ⟨w.heap.size, 0, none⟩) (by simp) _).setCell (p := ⟨w.heap.size + 1, 0, none⟩) (by simp) _
      clear c0 f0 c1 f1 c2 hK hbel b0 b1 b2
      generalize (W.setCell ⟨w.heap.size, 0, none⟩ (.int .u32 (m : Int))).setCell ⟨w.heap.size + 1, 0, none⟩ (.bool true) = W5 at *
      refine ⟨by simp, .inl ⟨_, _, rfl, run_takeDeferred hKD, ?_⟩⟩
      have hput := below_put (B := w.heap.size + 1 + 1 + 1) W5 (.deferred none) hKD hD
      have e0 := (boxed_below k0 (by omega) hput).cell
      have e1 := (boxed_below k1 (by omega) hput).cell
      refine ⟨_, ?_, ret_v HA.out.symm, hbel5.trans (hput.mono (by omega))⟩
      simp [results, Tryd.f34, go_sem, e0, e1]
    case stop =>
      rintro D W hD ⟨hgo, b0, b1, hbel⟩ hK
      clear x0 x1 x2 x3 x4 x5 xs xb HSP
      have HA : Hid (mskAns l = .tuple #[.int .u32 0, .bool false]) := Lib.hid (mskAns_no HNO.out hgo.out)
      gi_wp2
      refine ⟨by simp, .inl ⟨_, _, rfl, run_takeDeferred hK, ?_⟩⟩
      have hput := below_put (B := w.heap.size + 1 + 1 + 1) W (.deferred none) hK hD
      have e0 := (boxed_below b0 (by omega) hput).cell
      have e1 := (boxed_below b1 (by omega) hput).cell
      refine ⟨_, ?_, ret_v HA.out.symm, hbel.trans (hput.mono (by omega))⟩
      simp [results, Tryd.f34, go_sem, e0, e1]
end Go.Proofs.YtecfhgfjfnjagaaDoor
