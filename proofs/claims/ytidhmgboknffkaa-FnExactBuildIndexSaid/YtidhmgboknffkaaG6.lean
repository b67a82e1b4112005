/-
  Texts of the proof, merged: BuildSpec, SpanEq, IdxSpec2, IdxSpec1, SetOps, IdxSpec3, IdxSpec4, IdxSpec5, TRow, TRowS, BrRow, IdxSpec6, IdxSpec7, IdxSpec8, IdxFit, IdxSize, LawBuildIndex, OpenInts, OpnT, OCond, OCondS, OQuery, OQueryS.
-/
import Derived.Test.YtidhmgboknffkaaG5
import Derived.Lib.MinMax
import Derived.BigQuiet
import Derived.Deep.QuietTactic
import Derived.Deep.RegionHeld3
import Derived.ProofKit
import Derived.OpenShut
import Derived.Carry
import Derived.Lib.SmallJoins
import Derived.Deep.Slices
namespace Go.Proofs.Ytidhmgboknffkaa
open Go.RowKit
set_option linter.unusedVariables false
set_option linter.unusedSimpArgs false
theorem info_T_SpanS : ElemInfo tSpanS 55 (.slice none 0 0) := elemInfo_of (by kernel_rfl)
def FreshIx (w : World) (qs : List QD) (fs : List (List SpanD)) (e : Ending) (w' : World) : Prop := FreshT tIndex (fun cs => .agg cs.toArray) w (qs, fs) e w'
set_option maxHeartbeats 16000000 in
set_option maxRecDepth 100000 in
theorem specBuildIndex (v : Value) (qs : List QD) (w : World) (h : SlR tQuery w v qs) (hs : zL tQuery qs ≤ 1048576) :
    Calls Try.prog 10 #[v] w (FreshIx w (buildB qs).1 (buildB qs).2) := by
  have HS := Lib.hid hs
  have HSQ : Hid (szQL qs ≤ 1048576) := Lib.hid (by rw [← zL_queries]; exact hs)
  have hlen := zL_len hs
  have H := Lib.hid h
  obtain ⟨a, cap, rfl⟩ := slR_len h
  clear h hs
  have d0 := Lib.hid ((Below.refl w.heap.size w).alloc (Nat.le_refl _) (.cells #[.slice none 0 0, .slice none 0 0] 27))
  have B0 : Hid ((w.alloc (.cells #[.slice none 0 0, .slice none 0 0] 27)).heap[w.heap.size]? = some (.cells #[.slice none 0 0, .slice none 0 0] 27 (0, 0))) := Lib.hid (heap_alloc_new w _)
  have Y0 : Hid (w.heap.size < (w.alloc (.cells #[.slice none 0 0, .slice none 0 0] 27)).heap.size) := Lib.hid (by simp [World.size_alloc])
  cases hq : areQB qs with
  | false =>
    have HE : Hid (buildB qs = ([], [])) := Lib.hid (by unfold buildB; rw [hq]; rfl)
    have HA := Lib.hid (fun w h => specAreQueries (.slice a qs.length cap) qs w h HSQ.out)
    rw [hq] at HA
    rw [HE.out]
    clear hq HE
    go_enter Try.func10, Try.ntmps10
    go_wp2_with fail
    generalize w.alloc (.cells #[.slice none 0 0, .slice none 0 0] 27) = W at *
    refine (HA.out W (slR_queries (slR_below tQuery_law H.out d0.out))).mono ?_
    rintro e w1 ⟨rfl, b1⟩
    have k0 := (b1.block w.heap.size Y0.out).trans B0.out
    have c0 := cell_of_row _ _ 0 _ _ _ k0
    have c1 := cell_of_row _ _ 1 _ _ _ k0
    simp at c0 c1
    have f0 := frozen_of_row w1 _ 0 _ _ k0
    have f1 := frozen_of_row w1 _ 1 _ _ k0
    have D := Lib.hid (((d0.out.trans (b1.mono d0.out.size)).setCell (p := ⟨w.heap.size, 0, none⟩) (Nat.le_refl _) (.slice none 0 0)).setCell (p := ⟨w.heap.size, 1, none⟩) (Nat.le_refl _) (.slice none 0 0))
    have r := heap_setCell_same _ w.heap.size 1 _ _ (.slice none 0 0) (heap_setCell_same _ w.heap.size 0 _ _ (.slice none 0 0) k0)
    have e0 := cell_of_row _ _ 0 _ _ _ r
    have e1 := cell_of_row _ _ 1 _ _ _ r
    simp at e0 e1
    clear r k0 b1
    go_wp2
    refine bodyPost_ret (v := .agg #[.slice none 0 0, .slice none 0 0]) ?_ rfl ?_
    · simp [results, Try.f10, go_sem, e0, e1]
    · exact ⟨[.slice none 0 0, .slice none 0 0], rfl, tIndex_mkO (slO_nil _ _ _ (fun _ => False)) (slO_nil _ _ _ (fun _ => False)) (fun b h => False.elim h) (fun b h => False.elim h) (fun b h _ => False.elim h), D.out⟩
  | true =>
    have HE : Hid (buildB qs = (qs, fldTo qs 3)) := Lib.hid (by unfold buildB; rw [hq]; rfl)
    have HA := Lib.hid (fun w h => specAreQueries (.slice a qs.length cap) qs w h HSQ.out)
    rw [hq] at HA
    rw [HE.out]
    clear hq HE
    go_enter Try.func10, Try.ntmps10
    go_wp2_with fail
    generalize w.alloc (.cells #[.slice none 0 0, .slice none 0 0] 27) = W at *
    refine (HA.out W (slR_queries (slR_below tQuery_law H.out d0.out))).mono ?_
    rintro e w1 ⟨rfl, b1⟩
    have k0 := (b1.block w.heap.size Y0.out).trans B0.out
    have d1 := d0.out.trans (b1.mono d0.out.size)
    have y1 := Nat.lt_of_lt_of_le Y0.out b1.size
    have D1 := Lib.hid d1
    clear b1 B0 d0 Y0
    go_wp2_with fail
    refine (copy_l6Queries (.slice a qs.length cap) qs w1 (slR_below tQuery_law H.out D1.out) HS.out).mono ?_
    rintro e w2 ⟨u, rfl, oq, b2⟩
    obtain ⟨ua, uc, rfl⟩ := slO_len oq
    have k2 := (b2.block w.heap.size y1).trans k0
    have D2 := Lib.hid (d1.trans (b2.mono d1.size))
    have y2 := Nat.lt_of_lt_of_le y1 b2.size
    have PQ := Lib.hid (slO_lt tQuery_law oq)
    have hy12 : w.heap.size < w1.heap.size := y1
    have HY12 := Lib.hid hy12
    have K2 := Lib.hid k2
    have Y2 := Lib.hid y2
    clear k0 d1 b2 oq k2 y1 y2 D1 hy12
    go_wp2_with fail
    have hal : Below w2.heap.size w2 (w2.alloc (.cells #[.slice ua qs.length uc, .slice none 0 0] 27)) := (Below.refl _ _).alloc (Nat.le_refl _) _
    have k3 := (hal.block w.heap.size Y2.out).trans K2.out
    have x3 := heap_alloc_new w2 (.cells #[.slice ua qs.length uc, .slice none 0 0] 27)
    have p3 : SlO 73 tQuery (w2.alloc (.cells #[.slice ua qs.length uc, .slice none 0 0] 27)) (fun b => w.heap.size < b ∧ b < w2.heap.size) (.slice ua qs.length uc) qs := slO_mono (slO_fresh tQuery_law PQ.out hal) (fun b hb => ⟨by have := hb.1; have := HY12.out; have h9 : w1.heap.size ≤ b := hb.1; omega, hb.2⟩)
    have d3 := D2.out.trans (hal.mono D2.out.size)
    have y3 : w2.heap.size < (w2.alloc (.cells #[.slice ua qs.length uc, .slice none 0 0] 27)).heap.size := by simp [World.size_alloc]
    have HY2 := Y2.out
    clear hal PQ D2 K2
    generalize w2.alloc (.cells #[.slice ua qs.length uc, .slice none 0 0] 27) = W3 at *
    generalize w2.heap.size = R at *
    go_loopw [4] (fun i wr => ∃ (k : Nat) (fv : Value), k ≤ 3 ∧ i = .int .i64 k ∧ wr.heap[w.heap.size]? = some (.cells #[.slice none 0 0, .slice none 0 0] 27 (0, 0)) ∧ wr.heap[R]? = some (.cells #[.slice ua qs.length uc, fv] 27 (0, 0)) ∧ SlO 73 tQuery wr (fun b => w.heap.size < b ∧ b < R) (.slice ua qs.length uc) qs ∧ SlO 55 tSpanS wr (fun b => R < b) fv (fldTo qs k) ∧ Below w.heap.size w wr ∧ R < wr.heap.size) (fun i _ => 3 - (intOf i).toNat)
    case atStart => exact ⟨0, .slice none 0 0, by omega, rfl, k3, x3, p3, slO_nil _ _ _ _, d3, y3⟩
    case round =>
      obtain ⟨k, fv, hk, rfl, hr0, hr1, hpq, hpf, hbel, hRs⟩ := hrel
      obtain ⟨fa, fc, rfl⟩ := slO_len hpf
      rw [fldTo_len] at hr1 hpf
      by_cases hlt : k < 3
      · have i1 : (0 : Int) ≤ (k : Int) := by omega
        have i2 : (k : Int) < 3 := by omega
        have HST := Lib.hid (fldTo_step qs k)
        have HLN := Lib.hid (fldTo_len qs k)
        have B0 := Lib.hid hr0
        have BX := Lib.hid hr1
        have PQ := Lib.hid hpq
        have QQ := Lib.hid (fun b (h : w.heap.size < b ∧ b < R) => h)
        have PF := Lib.hid (slO_lt tSpanS_law hpf)
        have QF := Lib.hid (fun b (h : R < b ∧ b < wr.heap.size) => h)
        have d := Lib.hid hbel
        have Z0 : Hid (R < wr.heap.size) := Lib.hid hRs
        have Z1 : Hid (w.heap.size < R) := Lib.hid HY2
        clear hr0 hr1 hpq hpf hbel k3 x3 p3 d3 y3 hRs
        go_wp2
        refine wp_region_held_drew (S := fun w' => True) (by kernel_rfl) trivial (fun hHeld => ?_)
        have cdr : Below wr.heap.size wr wr.drew := below_drew (Below.refl _ _)
        replace B0 := Lib.hid ((cdr.block w.heap.size (Array.getElem?_eq_some_iff.1 B0.out).1).trans B0.out)
        replace BX := Lib.hid ((cdr.block R (Array.getElem?_eq_some_iff.1 BX.out).1).trans BX.out)
        replace PQ := Lib.hid (slO_fresh tQuery_law PQ.out cdr)
        replace PF := Lib.hid (slO_fresh tSpanS_law PF.out cdr)
        replace d := Lib.hid (d.out.trans (cdr.mono d.out.size))
        clear cdr
        refine take_runs (i := 0) (v := ?_) (by simp only [List.getElem?_toArray, List.getElem?_cons_succ, List.getElem?_cons_zero]; rfl) (by kernel_rfl) (by kernel_rfl) (by kernel_rfl) rfl (by exact fun _ _ _ h => h) (by rfl) ?_ (by assumption) ?_
        rotate_left
        · intro w hSw; (try dsimp only at hSw); go_simp; try (with_reducible rfl)
        try simp only [Act.put, List.setIfInBounds_toArray, List.set_cons_zero, List.set_cons_succ]
        refine take_runs (i := 2) (v := ?_) (by simp only [List.getElem?_toArray, List.getElem?_cons_succ, List.getElem?_cons_zero]; rfl) (by kernel_rfl) (by kernel_rfl) (by kernel_rfl) rfl (by exact fun _ _ _ h => h) (by rfl) ?_ (by assumption) ?_
        rotate_left
        · intro w hSw; (try dsimp only at hSw); go_simp; try (with_reducible rfl)
        try simp only [Act.put, List.setIfInBounds_toArray, List.set_cons_zero, List.set_cons_succ]
        refine take_runs (i := 3) (v := ?_) (by simp only [List.getElem?_toArray, List.getElem?_cons_succ, List.getElem?_cons_zero]; rfl) (by kernel_rfl) (by kernel_rfl) (by kernel_rfl) rfl (by exact fun _ _ _ h => h) (by rfl) ?_ (by assumption) ?_
        rotate_left
        · intro w hSw; (try dsimp only at hSw); go_simp; try (with_reducible rfl)
        try simp only [Act.put, List.setIfInBounds_toArray, List.set_cons_zero, List.set_cons_succ]
        refine wpAnyH_ready (rs := [1, 4]) (by kernel_rfl) (by simp) ?_
        refine (AllReadyH.cons (o := _) (by simp only [List.getElem?_toArray, List.getElem?_cons_succ, List.getElem?_cons_zero]; rfl) (fun K hK => ?_) (AllReadyH.cons (o := _) (by simp only [List.getElem?_toArray, List.getElem?_cons_succ, List.getElem?_cons_zero]; rfl) (fun K hK => ?_) AllReadyH.nil))
        · have p_BX_0 := (cell_of_row (wr.drew) _ 0 _ _ _ BX.out).trans (show _ = some (Value.slice ua qs.length uc) from rfl)
          have p_BX_1 := (cell_of_row (wr.drew) _ 1 _ _ _ BX.out).trans (show _ = some (Value.slice fa k fc) from rfl)
          go_simp
          clear p_BX_0 p_BX_1
          refine hK.out _ _ trivial (fun hHeld => ?_)
          clear hK K
          try simp only [Act.put, List.setIfInBounds_toArray, List.set_cons_zero, List.set_cons_succ]
          refine wpAnyH_ready (rs := [4]) (by kernel_rfl) (by simp) ?_
          refine (AllReadyH.cons (o := _) (by simp only [List.getElem?_toArray, List.getElem?_cons_succ, List.getElem?_cons_zero]; rfl) (fun K hK => ?_) AllReadyH.nil)
          go_simp
          refine (specStabIndex (.slice a qs.length cap) qs (k : Int) (wr.drew) (slR_queries (slR_below tQuery_law H.out d.out)) HSQ.out).mono ?_
          rintro e w5 ⟨su, rfl, os, c5⟩
          replace B0 := Lib.hid ((c5.block w.heap.size (Array.getElem?_eq_some_iff.1 B0.out).1).trans B0.out)
          replace BX := Lib.hid ((c5.block R (Array.getElem?_eq_some_iff.1 BX.out).1).trans BX.out)
          replace PQ := Lib.hid (slO_fresh tQuery_law PQ.out c5)
          replace PF := Lib.hid (slO_fresh tSpanS_law PF.out c5)
          replace d := Lib.hid (d.out.trans (c5.mono d.out.size))
          have Z_w5 := Lib.hid (show wr.heap.size ≤ w5.heap.size from c5.size)
          clear c5
          have os2 := fresh_spans os
          obtain ⟨sa, sc, rfl⟩ := slO_len os2
          have PS : Hid (SlO 100 tSpan w5 (fun b => wr.heap.size ≤ b) (.slice sa (spansL qs (k : Int)).length sc) (spansL qs (k : Int))) := Lib.hid os2
          clear os os2
          refine hK.out _ _ trivial (fun hHeld => ?_)
          clear hK K
          try simp only [Act.put, List.setIfInBounds_toArray, List.set_cons_zero, List.set_cons_succ]
          refine wpAnyH_ready (rs := [5]) (by kernel_rfl) (by simp) ?_
          refine (AllReadyH.cons (o := _) (by simp only [List.getElem?_toArray, List.getElem?_cons_succ, List.getElem?_cons_zero]; rfl) (fun K hK => ?_) AllReadyH.nil)
          have KB0 := B0
          have KBX := BX
          have KPQ := PQ
          go_simp
          have hal : Below w5.heap.size w5 (w5.alloc (.cells #[.slice sa (spansL qs (k : Int)).length sc] 55)) := (Below.refl _ _).alloc (Nat.le_refl _) _
          have PF5 := PF
          have PS5 := PS
          replace B0 := Lib.hid ((hal.block w.heap.size (Array.getElem?_eq_some_iff.1 B0.out).1).trans B0.out)
          replace BX := Lib.hid ((hal.block R (Array.getElem?_eq_some_iff.1 BX.out).1).trans BX.out)
          replace PQ := Lib.hid (slO_fresh tQuery_law PQ.out hal)
          replace PF := Lib.hid (slO_fresh tSpanS_law PF.out hal)
          have D5 := d
          replace d := Lib.hid (d.out.trans (hal.mono d.out.size))
          clear hal
          refine hK.out _ _ trivial (fun hHeld => ?_)
          clear hK K
          try simp only [Act.put, List.setIfInBounds_toArray, List.set_cons_zero, List.set_cons_succ]
          refine wpAnyH_ready (rs := [6]) (by kernel_rfl) (by simp) ?_
          refine (AllReadyH.cons (o := _) (by simp only [List.getElem?_toArray, List.getElem?_cons_succ, List.getElem?_cons_zero]; rfl) (fun K hK => ?_) AllReadyH.nil)
          refine step_append_T tSpanS_law info_T_SpanS Try.underlying25 rfl rfl (.tmp 17) (.tmp 21) rfl (fun b => R < b) wr.heap.size _ (fldTo qs k) rfl PF5.out Z_w5.out (fun b hb => Nat.lt_of_lt_of_le Z0.out hb) (by rw [HLN.out]; omega) [.slice sa (spansL qs (k : Int)).length sc] (spansL qs (k : Int)) ⟨_, rfl, PS5.out⟩ (by simp [Value.oneCell']) 1 _ rfl rfl ?_
          intro v' w6 o6 t6
          rw [HST.out] at o6
          obtain ⟨ga, gc, hv⟩ := slO_len o6
          rw [fldTo_len] at hv
          subst hv
          have y0 := Z0.out; have y1 := Z1.out; have y5 := Z_w5.out; have yd := D5.out.size
          have k0 := (t6.block w.heap.size (by omega) (fun h => by have := h.1; omega)).trans KB0.out
          have kx := (t6.block R (by omega) (fun h => by have := h.1; omega)).trans KBX.out
          have pq := slO_turn tQuery_law KPQ.out t6 (fun b h1 h2 => by have := h1.2; have := h2.1; omega)
          have d6 := below_turn D5.out t6 (fun b h => by have := h.1; omega) yd
          have z6 := t6.size
          replace B0 := Lib.hid k0
          replace BX := Lib.hid kx
          replace PQ := Lib.hid pq
          replace d := Lib.hid d6
          have PG := Lib.hid o6
          have Z6 : Hid (R < w6.heap.size) := Lib.hid (by omega)
          clear k0 kx pq d6 z6 o6 t6 y0 y1 y5 yd PF PF5 PS PS5 KB0 KBX KPQ D5
          refine hK.out _ _ trivial (fun hHeld => ?_)
          clear hK K
          try simp only [Act.put, List.setIfInBounds_toArray, List.set_cons_zero, List.set_cons_succ]
          refine take_runs (i := 7) (v := ?_) (by simp only [List.getElem?_toArray, List.getElem?_cons_succ, List.getElem?_cons_zero]; rfl) (by kernel_rfl) (by kernel_rfl) (by kernel_rfl) rfl (by exact fun _ _ _ h => h) (by rfl) ?_ (by assumption) ?_
          rotate_left
          · intro w hSw; (try dsimp only at hSw); go_simp; try (with_reducible rfl)
          try simp only [Act.put, List.setIfInBounds_toArray, List.set_cons_zero, List.set_cons_succ]
          refine wpAnyH_ready (rs := [8]) (by kernel_rfl) (by simp) ?_
          refine (AllReadyH.cons (o := _) (by simp only [List.getElem?_toArray, List.getElem?_cons_succ, List.getElem?_cons_zero]; rfl) (fun K hK => ?_) AllReadyH.nil)
          have cx1 := (cell_of_row w6 _ 1 _ _ _ BX.out).trans (show _ = some (Value.slice fa k fc) from rfl)
          have fx1 := frozen_of_row w6 _ 1 _ _ BX.out
          go_simp
          clear cx1 fx1
          have tt : Turn (fun b => b = R) w6 (w6.setCell ⟨R, 1, none⟩ (.slice ga (k + 1) gc)) := turn_set (G := fun b => b = R) (g := R) (j := 1) (u := .slice ga (k + 1) gc) rfl
          have y0 := Z1.out; have y6 := Z6.out
          have r := heap_setCell_same w6 R 1 _ _ (.slice ga (k + 1) gc) BX.out
          replace BX : Hid ((w6.setCell ⟨R, 1, none⟩ (.slice ga (k + 1) gc)).heap[R]? = some (.cells #[.slice ua qs.length uc, .slice ga (k + 1) gc] 27 (0, 0))) := Lib.hid (by simpa using r)
          replace B0 := Lib.hid ((tt.block w.heap.size (by omega) (fun h => by omega)).trans B0.out)
          replace PQ := Lib.hid (slO_turn tQuery_law PQ.out tt (fun b h1 h2 => by have := h1.2; omega))
          replace PG := Lib.hid (slO_turn tSpanS_law PG.out tt (fun b h1 h2 => by have h3 : R < b := h1; omega))
          replace d := Lib.hid (below_turn d.out tt (fun b h => by omega) d.out.size)
          have Z7 : Hid (R < (w6.setCell ⟨R, 1, none⟩ (.slice ga (k + 1) gc)).heap.size) := Lib.hid (Nat.lt_of_lt_of_le y6 tt.size)
          clear tt y0 y6 r
          generalize w6.setCell ⟨R, 1, none⟩ (.slice ga (k + 1) gc) = w7 at *
          refine hK.out _ _ trivial (fun hHeld => ?_)
          clear hK K
          try simp only [Act.put, List.setIfInBounds_toArray, List.set_cons_zero, List.set_cons_succ]
          refine wpAnyH_done (by kernel_rfl) ?_ _
          clear hHeld
          go_wp2
          go_roundw
          case rel => exact ⟨k + 1, _, by omega, by go_num, B0.out, BX.out, PQ.out, PG.out, d.out, Z7.out⟩
          case measure => simp [intOf]; omega
        · go_simp
          refine (specStabIndex (.slice a qs.length cap) qs (k : Int) (wr.drew) (slR_queries (slR_below tQuery_law H.out d.out)) HSQ.out).mono ?_
          rintro e w5 ⟨su, rfl, os, c5⟩
          replace B0 := Lib.hid ((c5.block w.heap.size (Array.getElem?_eq_some_iff.1 B0.out).1).trans B0.out)
          replace BX := Lib.hid ((c5.block R (Array.getElem?_eq_some_iff.1 BX.out).1).trans BX.out)
          replace PQ := Lib.hid (slO_fresh tQuery_law PQ.out c5)
          replace PF := Lib.hid (slO_fresh tSpanS_law PF.out c5)
          replace d := Lib.hid (d.out.trans (c5.mono d.out.size))
          have Z_w5 := Lib.hid (show wr.heap.size ≤ w5.heap.size from c5.size)
          clear c5
          have os2 := fresh_spans os
          obtain ⟨sa, sc, rfl⟩ := slO_len os2
          have PS : Hid (SlO 100 tSpan w5 (fun b => wr.heap.size ≤ b) (.slice sa (spansL qs (k : Int)).length sc) (spansL qs (k : Int))) := Lib.hid os2
          clear os os2
          refine hK.out _ _ trivial (fun hHeld => ?_)
          clear hK K
          try simp only [Act.put, List.setIfInBounds_toArray, List.set_cons_zero, List.set_cons_succ]
          refine wpAnyH_ready (rs := [1, 5]) (by kernel_rfl) (by simp) ?_
          refine (AllReadyH.cons (o := _) (by simp only [List.getElem?_toArray, List.getElem?_cons_succ, List.getElem?_cons_zero]; rfl) (fun K hK => ?_) (AllReadyH.cons (o := _) (by simp only [List.getElem?_toArray, List.getElem?_cons_succ, List.getElem?_cons_zero]; rfl) (fun K hK => ?_) AllReadyH.nil))
          · have p_BX_0 := (cell_of_row w5 _ 0 _ _ _ BX.out).trans (show _ = some (Value.slice ua qs.length uc) from rfl)
            have p_BX_1 := (cell_of_row w5 _ 1 _ _ _ BX.out).trans (show _ = some (Value.slice fa k fc) from rfl)
            go_simp
            clear p_BX_0 p_BX_1
            refine hK.out _ _ trivial (fun hHeld => ?_)
            clear hK K
            try simp only [Act.put, List.setIfInBounds_toArray, List.set_cons_zero, List.set_cons_succ]
            refine wpAnyH_ready (rs := [5]) (by kernel_rfl) (by simp) ?_
            refine (AllReadyH.cons (o := _) (by simp only [List.getElem?_toArray, List.getElem?_cons_succ, List.getElem?_cons_zero]; rfl) (fun K hK => ?_) AllReadyH.nil)
            have KB0 := B0
            have KBX := BX
            have KPQ := PQ
            go_simp
            have hal : Below w5.heap.size w5 (w5.alloc (.cells #[.slice sa (spansL qs (k : Int)).length sc] 55)) := (Below.refl _ _).alloc (Nat.le_refl _) _
            have PF5 := PF
            have PS5 := PS
            replace B0 := Lib.hid ((hal.block w.heap.size (Array.getElem?_eq_some_iff.1 B0.out).1).trans B0.out)
            replace BX := Lib.hid ((hal.block R (Array.getElem?_eq_some_iff.1 BX.out).1).trans BX.out)
            replace PQ := Lib.hid (slO_fresh tQuery_law PQ.out hal)
            replace PF := Lib.hid (slO_fresh tSpanS_law PF.out hal)
            have D5 := d
            replace d := Lib.hid (d.out.trans (hal.mono d.out.size))
            clear hal
            refine hK.out _ _ trivial (fun hHeld => ?_)
            clear hK K
            try simp only [Act.put, List.setIfInBounds_toArray, List.set_cons_zero, List.set_cons_succ]
            refine wpAnyH_ready (rs := [6]) (by kernel_rfl) (by simp) ?_
            refine (AllReadyH.cons (o := _) (by simp only [List.getElem?_toArray, List.getElem?_cons_succ, List.getElem?_cons_zero]; rfl) (fun K hK => ?_) AllReadyH.nil)
            refine step_append_T tSpanS_law info_T_SpanS Try.underlying25 rfl rfl (.tmp 17) (.tmp 21) rfl (fun b => R < b) wr.heap.size _ (fldTo qs k) rfl PF5.out Z_w5.out (fun b hb => Nat.lt_of_lt_of_le Z0.out hb) (by rw [HLN.out]; omega) [.slice sa (spansL qs (k : Int)).length sc] (spansL qs (k : Int)) ⟨_, rfl, PS5.out⟩ (by simp [Value.oneCell']) 1 _ rfl rfl ?_
            intro v' w6 o6 t6
            rw [HST.out] at o6
            obtain ⟨ga, gc, hv⟩ := slO_len o6
            rw [fldTo_len] at hv
            subst hv
            have y0 := Z0.out; have y1 := Z1.out; have y5 := Z_w5.out; have yd := D5.out.size
            have k0 := (t6.block w.heap.size (by omega) (fun h => by have := h.1; omega)).trans KB0.out
            have kx := (t6.block R (by omega) (fun h => by have := h.1; omega)).trans KBX.out
            have pq := slO_turn tQuery_law KPQ.out t6 (fun b h1 h2 => by have := h1.2; have := h2.1; omega)
            have d6 := below_turn D5.out t6 (fun b h => by have := h.1; omega) yd
            have z6 := t6.size
            replace B0 := Lib.hid k0
            replace BX := Lib.hid kx
            replace PQ := Lib.hid pq
            replace d := Lib.hid d6
            have PG := Lib.hid o6
            have Z6 : Hid (R < w6.heap.size) := Lib.hid (by omega)
            clear k0 kx pq d6 z6 o6 t6 y0 y1 y5 yd PF PF5 PS PS5 KB0 KBX KPQ D5
            refine hK.out _ _ trivial (fun hHeld => ?_)
            clear hK K
            try simp only [Act.put, List.setIfInBounds_toArray, List.set_cons_zero, List.set_cons_succ]
            refine take_runs (i := 7) (v := ?_) (by simp only [List.getElem?_toArray, List.getElem?_cons_succ, List.getElem?_cons_zero]; rfl) (by kernel_rfl) (by kernel_rfl) (by kernel_rfl) rfl (by exact fun _ _ _ h => h) (by rfl) ?_ (by assumption) ?_
            rotate_left
            · intro w hSw; (try dsimp only at hSw); go_simp; try (with_reducible rfl)
            try simp only [Act.put, List.setIfInBounds_toArray, List.set_cons_zero, List.set_cons_succ]
            refine wpAnyH_ready (rs := [8]) (by kernel_rfl) (by simp) ?_
            refine (AllReadyH.cons (o := _) (by simp only [List.getElem?_toArray, List.getElem?_cons_succ, List.getElem?_cons_zero]; rfl) (fun K hK => ?_) AllReadyH.nil)
            have cx1 := (cell_of_row w6 _ 1 _ _ _ BX.out).trans (show _ = some (Value.slice fa k fc) from rfl)
            have fx1 := frozen_of_row w6 _ 1 _ _ BX.out
            go_simp
            clear cx1 fx1
            have tt : Turn (fun b => b = R) w6 (w6.setCell ⟨R, 1, none⟩ (.slice ga (k + 1) gc)) := turn_set (G := fun b => b = R) (g := R) (j := 1) (u := .slice ga (k + 1) gc) rfl
            have y0 := Z1.out; have y6 := Z6.out
            have r := heap_setCell_same w6 R 1 _ _ (.slice ga (k + 1) gc) BX.out
            replace BX : Hid ((w6.setCell ⟨R, 1, none⟩ (.slice ga (k + 1) gc)).heap[R]? = some (.cells #[.slice ua qs.length uc, .slice ga (k + 1) gc] 27 (0, 0))) := Lib.hid (by simpa using r)
            replace B0 := Lib.hid ((tt.block w.heap.size (by omega) (fun h => by omega)).trans B0.out)
            replace PQ := Lib.hid (slO_turn tQuery_law PQ.out tt (fun b h1 h2 => by have := h1.2; omega))
            replace PG := Lib.hid (slO_turn tSpanS_law PG.out tt (fun b h1 h2 => by have h3 : R < b := h1; omega))
            replace d := Lib.hid (below_turn d.out tt (fun b h => by omega) d.out.size)
            have Z7 : Hid (R < (w6.setCell ⟨R, 1, none⟩ (.slice ga (k + 1) gc)).heap.size) := Lib.hid (Nat.lt_of_lt_of_le y6 tt.size)
            clear tt y0 y6 r
            generalize w6.setCell ⟨R, 1, none⟩ (.slice ga (k + 1) gc) = w7 at *
            refine hK.out _ _ trivial (fun hHeld => ?_)
            clear hK K
            try simp only [Act.put, List.setIfInBounds_toArray, List.set_cons_zero, List.set_cons_succ]
            refine wpAnyH_done (by kernel_rfl) ?_ _
            clear hHeld
            go_wp2
            go_roundw
            case rel => exact ⟨k + 1, _, by omega, by go_num, B0.out, BX.out, PQ.out, PG.out, d.out, Z7.out⟩
            case measure => simp [intOf]; omega
          · have KB0 := B0
            have KBX := BX
            have KPQ := PQ
            go_simp
            have hal : Below w5.heap.size w5 (w5.alloc (.cells #[.slice sa (spansL qs (k : Int)).length sc] 55)) := (Below.refl _ _).alloc (Nat.le_refl _) _
            have PF5 := PF
            have PS5 := PS
            replace B0 := Lib.hid ((hal.block w.heap.size (Array.getElem?_eq_some_iff.1 B0.out).1).trans B0.out)
            replace BX := Lib.hid ((hal.block R (Array.getElem?_eq_some_iff.1 BX.out).1).trans BX.out)
            replace PQ := Lib.hid (slO_fresh tQuery_law PQ.out hal)
            replace PF := Lib.hid (slO_fresh tSpanS_law PF.out hal)
            have D5 := d
            replace d := Lib.hid (d.out.trans (hal.mono d.out.size))
            clear hal
            refine hK.out _ _ trivial (fun hHeld => ?_)
            clear hK K
            try simp only [Act.put, List.setIfInBounds_toArray, List.set_cons_zero, List.set_cons_succ]
            refine wpAnyH_ready (rs := [1]) (by kernel_rfl) (by simp) ?_
            refine (AllReadyH.cons (o := _) (by simp only [List.getElem?_toArray, List.getElem?_cons_succ, List.getElem?_cons_zero]; rfl) (fun K hK => ?_) AllReadyH.nil)
            have p_BX_0 := (cell_of_row (w5.alloc (.cells #[.slice sa (spansL qs (k : Int)).length sc] 55)) _ 0 _ _ _ BX.out).trans (show _ = some (Value.slice ua qs.length uc) from rfl)
            have p_BX_1 := (cell_of_row (w5.alloc (.cells #[.slice sa (spansL qs (k : Int)).length sc] 55)) _ 1 _ _ _ BX.out).trans (show _ = some (Value.slice fa k fc) from rfl)
            go_simp
            clear p_BX_0 p_BX_1
            refine hK.out _ _ trivial (fun hHeld => ?_)
            clear hK K
            try simp only [Act.put, List.setIfInBounds_toArray, List.set_cons_zero, List.set_cons_succ]
            refine wpAnyH_ready (rs := [6]) (by kernel_rfl) (by simp) ?_
            refine (AllReadyH.cons (o := _) (by simp only [List.getElem?_toArray, List.getElem?_cons_succ, List.getElem?_cons_zero]; rfl) (fun K hK => ?_) AllReadyH.nil)
            refine step_append_T tSpanS_law info_T_SpanS Try.underlying25 rfl rfl (.tmp 17) (.tmp 21) rfl (fun b => R < b) wr.heap.size _ (fldTo qs k) rfl PF5.out Z_w5.out (fun b hb => Nat.lt_of_lt_of_le Z0.out hb) (by rw [HLN.out]; omega) [.slice sa (spansL qs (k : Int)).length sc] (spansL qs (k : Int)) ⟨_, rfl, PS5.out⟩ (by simp [Value.oneCell']) 1 _ rfl rfl ?_
            intro v' w6 o6 t6
            rw [HST.out] at o6
            obtain ⟨ga, gc, hv⟩ := slO_len o6
            rw [fldTo_len] at hv
            subst hv
            have y0 := Z0.out; have y1 := Z1.out; have y5 := Z_w5.out; have yd := D5.out.size
            have k0 := (t6.block w.heap.size (by omega) (fun h => by have := h.1; omega)).trans KB0.out
            have kx := (t6.block R (by omega) (fun h => by have := h.1; omega)).trans KBX.out
            have pq := slO_turn tQuery_law KPQ.out t6 (fun b h1 h2 => by have := h1.2; have := h2.1; omega)
            have d6 := below_turn D5.out t6 (fun b h => by have := h.1; omega) yd
            have z6 := t6.size
            replace B0 := Lib.hid k0
            replace BX := Lib.hid kx
            replace PQ := Lib.hid pq
            replace d := Lib.hid d6
            have PG := Lib.hid o6
            have Z6 : Hid (R < w6.heap.size) := Lib.hid (by omega)
            clear k0 kx pq d6 z6 o6 t6 y0 y1 y5 yd PF PF5 PS PS5 KB0 KBX KPQ D5
            refine hK.out _ _ trivial (fun hHeld => ?_)
            clear hK K
            try simp only [Act.put, List.setIfInBounds_toArray, List.set_cons_zero, List.set_cons_succ]
            refine take_runs (i := 7) (v := ?_) (by simp only [List.getElem?_toArray, List.getElem?_cons_succ, List.getElem?_cons_zero]; rfl) (by kernel_rfl) (by kernel_rfl) (by kernel_rfl) rfl (by exact fun _ _ _ h => h) (by rfl) ?_ (by assumption) ?_
            rotate_left
            · intro w hSw; (try dsimp only at hSw); go_simp; try (with_reducible rfl)
            try simp only [Act.put, List.setIfInBounds_toArray, List.set_cons_zero, List.set_cons_succ]
            refine wpAnyH_ready (rs := [8]) (by kernel_rfl) (by simp) ?_
            refine (AllReadyH.cons (o := _) (by simp only [List.getElem?_toArray, List.getElem?_cons_succ, List.getElem?_cons_zero]; rfl) (fun K hK => ?_) AllReadyH.nil)
            have cx1 := (cell_of_row w6 _ 1 _ _ _ BX.out).trans (show _ = some (Value.slice fa k fc) from rfl)
            have fx1 := frozen_of_row w6 _ 1 _ _ BX.out
            go_simp
            clear cx1 fx1
            have tt : Turn (fun b => b = R) w6 (w6.setCell ⟨R, 1, none⟩ (.slice ga (k + 1) gc)) := turn_set (G := fun b => b = R) (g := R) (j := 1) (u := .slice ga (k + 1) gc) rfl
            have y0 := Z1.out; have y6 := Z6.out
            have r := heap_setCell_same w6 R 1 _ _ (.slice ga (k + 1) gc) BX.out
            replace BX : Hid ((w6.setCell ⟨R, 1, none⟩ (.slice ga (k + 1) gc)).heap[R]? = some (.cells #[.slice ua qs.length uc, .slice ga (k + 1) gc] 27 (0, 0))) := Lib.hid (by simpa using r)
            replace B0 := Lib.hid ((tt.block w.heap.size (by omega) (fun h => by omega)).trans B0.out)
            replace PQ := Lib.hid (slO_turn tQuery_law PQ.out tt (fun b h1 h2 => by have := h1.2; omega))
            replace PG := Lib.hid (slO_turn tSpanS_law PG.out tt (fun b h1 h2 => by have h3 : R < b := h1; omega))
            replace d := Lib.hid (below_turn d.out tt (fun b h => by omega) d.out.size)
            have Z7 : Hid (R < (w6.setCell ⟨R, 1, none⟩ (.slice ga (k + 1) gc)).heap.size) := Lib.hid (Nat.lt_of_lt_of_le y6 tt.size)
            clear tt y0 y6 r
            generalize w6.setCell ⟨R, 1, none⟩ (.slice ga (k + 1) gc) = w7 at *
            refine hK.out _ _ trivial (fun hHeld => ?_)
            clear hK K
            try simp only [Act.put, List.setIfInBounds_toArray, List.set_cons_zero, List.set_cons_succ]
            refine wpAnyH_done (by kernel_rfl) ?_ _
            clear hHeld
            go_wp2
            go_roundw
            case rel => exact ⟨k + 1, _, by omega, by go_num, B0.out, BX.out, PQ.out, PG.out, d.out, Z7.out⟩
            case measure => simp [intOf]; omega
      · obtain rfl : k = 3 := by omega
        have cx0 := (cell_of_row wr _ 0 _ _ _ hr1).trans (show _ = some (Value.slice ua qs.length uc) from rfl)
        have cx1 := (cell_of_row wr _ 1 _ _ _ hr1).trans (show _ = some (Value.slice fa 3 fc) from rfl)
        have c0 := (cell_of_row wr _ 0 _ _ _ hr0).trans (show _ = some (Value.slice none 0 0) from rfl)
        have c1 := (cell_of_row wr _ 1 _ _ _ hr0).trans (show _ = some (Value.slice none 0 0) from rfl)
        have f0 := frozen_of_row wr _ 0 _ _ hr0
        have f1 := frozen_of_row wr _ 1 _ _ hr0
        have r := heap_setCell_same _ w.heap.size 1 _ _ (.slice fa 3 fc) (heap_setCell_same wr w.heap.size 0 _ _ (.slice ua qs.length uc) hr0)
        have tt : Turn (fun b => b = w.heap.size) wr ((wr.setCell ⟨w.heap.size, 0, none⟩ (.slice ua qs.length uc)).setCell ⟨w.heap.size, 1, none⟩ (.slice fa 3 fc)) := ((Turn.refl (fun b => b = w.heap.size) wr).trans (turn_set (G := fun b => b = w.heap.size) (g := w.heap.size) (j := 0) (u := .slice ua qs.length uc) rfl)).trans (turn_set (G := fun b => b = w.heap.size) (g := w.heap.size) (j := 1) (u := .slice fa 3 fc) rfl)
        have e0 := cell_of_row _ _ 0 _ _ _ r
        have e1 := cell_of_row _ _ 1 _ _ _ r
        simp at e0 e1
        have P1 := Lib.hid (slO_turn tQuery_law hpq tt (fun b h1 h2 => by omega))
        have P2 := Lib.hid (slO_turn tSpanS_law hpf tt (fun b h1 h2 => by omega))
        have D := Lib.hid (below_turn hbel tt (fun b h => by omega) hbel.size)
        clear r tt hpq hpf hbel hr0 hr1 k3 x3 p3 d3 y3
        go_wp2
        refine bodyPost_ret (v := .agg #[.slice ua qs.length uc, .slice fa 3 fc]) ?_ rfl ?_
        · simp [results, Try.f10, go_sem, e0, e1]
        · exact ⟨[.slice ua qs.length uc, .slice fa 3 fc], rfl, tIndex_mkO P1.out P2.out (fun b h => Nat.le_of_lt h.1) (fun b h => by show w.heap.size ≤ b; omega) (fun b h1 h2 => by omega), D.out⟩
end Go.Proofs.Ytidhmgboknffkaa
namespace Go.Proofs.Ytidhmgboknffkaa
open Go.RowKit
set_option linter.unusedVariables false
set_option linter.unusedSimpArgs false
end Go.Proofs.Ytidhmgboknffkaa
namespace Go.Proofs.Ytidhmgboknffkaa
open Go.RowKit
set_option linter.unusedVariables false
set_option linter.unusedSimpArgs false
end Go.Proofs.Ytidhmgboknffkaa
namespace Go.Proofs.Ytidhmgboknffkaa
open Go.RowKit
set_option linter.unusedVariables false
set_option linter.unusedSimpArgs false
end Go.Proofs.Ytidhmgboknffkaa
namespace Go.Proofs.Ytidhmgboknffkaa
open Go.RowKit
set_option linter.unusedVariables false
/-! ### Meet -/
/-! ### Sub -/
end Go.Proofs.Ytidhmgboknffkaa
namespace Go.Proofs.Ytidhmgboknffkaa
open Go.RowKit
set_option linter.unusedVariables false
set_option linter.unusedSimpArgs false
end Go.Proofs.Ytidhmgboknffkaa
namespace Go.Proofs.Ytidhmgboknffkaa
open Go.RowKit
set_option linter.unusedVariables false
set_option linter.unusedSimpArgs false
end Go.Proofs.Ytidhmgboknffkaa
namespace Go.Proofs.Ytidhmgboknffkaa
open Go.RowKit
set_option linter.unusedVariables false
set_option linter.unusedSimpArgs false
end Go.Proofs.Ytidhmgboknffkaa
namespace Go.Proofs.Ytidhmgboknffkaa
open Go.RowKit
set_option linter.unusedVariables false
set_option linter.unusedSimpArgs false
end Go.Proofs.Ytidhmgboknffkaa
namespace Go.Proofs.Ytidhmgboknffkaa
open Go.RowKit
set_option linter.unusedVariables false
set_option linter.unusedSimpArgs false
end Go.Proofs.Ytidhmgboknffkaa
namespace Go.Proofs.Ytidhmgboknffkaa
open Go.RowKit
set_option linter.unusedVariables false
set_option linter.unusedSimpArgs false
end Go.Proofs.Ytidhmgboknffkaa
namespace Go.Proofs.Ytidhmgboknffkaa
open Go.RowKit
set_option linter.unusedVariables false
set_option linter.unusedSimpArgs false
end Go.Proofs.Ytidhmgboknffkaa
namespace Go.Proofs.Ytidhmgboknffkaa
open Go.RowKit
set_option linter.unusedVariables false
set_option linter.unusedSimpArgs false
end Go.Proofs.Ytidhmgboknffkaa
namespace Go.Proofs.Ytidhmgboknffkaa
open Go.RowKit
set_option linter.unusedVariables false
set_option linter.unusedSimpArgs false
end Go.Proofs.Ytidhmgboknffkaa
namespace Go.Proofs.Ytidhmgboknffkaa
open Go.RowKit
set_option linter.unusedVariables false
set_option linter.unusedSimpArgs false
theorem fitBuildIndex (x0 : List QD) : ∀ (v : Value) (w : World), SlR tQuery w v x0 → zL tQuery x0 ≤ 1048576 →
    Calls Try.prog 10 #[v] w (fun e w' => ∃ (g0 : List Value) (G0 : Nat → Prop), e = .returned (.agg g0.toArray) ∧ tIndex.O w' G0 g0 (buildB x0) ∧ (∀ b, G0 b → w.heap.size ≤ b) ∧ Below w.heap.size w w') := by
  intro v w h hz
  refine (specBuildIndex v x0 w h hz).mono ?_
  rintro e w' ⟨cs, he, ho, hb⟩
  exact ⟨cs, since w, he, ho, fun b hb => hb, hb⟩
end Go.Proofs.Ytidhmgboknffkaa
namespace Go.Proofs.Ytidhmgboknffkaa
open Go.RowKit
set_option linter.unusedVariables false
set_option linter.unusedSimpArgs false
theorem sum_all_le {α : Type} {f : α → Nat} {M : Nat} : ∀ (xs : List α), (∀ x ∈ xs, f x ≤ M) → (xs.map f).sum ≤ xs.length * M
  | [], _ => by simp
  | x :: xs, h => by
    have h1 := sum_all_le xs (fun y hy => h y (List.mem_cons_of_mem _ hy))
    have h2 := h x (List.mem_cons_self ..)
    rw [List.length_cons, Nat.add_mul, Nat.one_mul, List.map_cons, List.sum_cons]
    omega
theorem zL_le {α : Type} {T : Ty α} {xs : List α} {M : Nat} (h : ∀ x ∈ xs, T.sz x ≤ M) : zL T xs ≤ xs.length * (1 + M) := by
  have h1 := sum_all_le xs h
  show xs.length + ((xs.take xs.length).map T.sz).sum ≤ _
  rw [List.take_length, Nat.mul_add, Nat.mul_one]
  omega
theorem build_size (qs : List QD) : tIndex.sz (buildB qs) ≤ 1048576 := by
  unfold buildB
  split
  · next h =>
    rw [tIndex_sz]
    have hl := areQ_len h
    have h1 : zL tQuery qs ≤ qs.length * (1 + 6) := by
      apply zL_le
      intro q hq
      obtain ⟨id, tn, cs, os⟩ := q
      have h2 := areQ_at h hq
      unfold qB queryB fieldsB at h2
      simp only [Bool.and_eq_true, decide_eq_true_eq] at h2
      rw [tQuery_sz, zL_conds, zL_ints]
      omega
    have h2 : zL tSpanS (fldTo qs 3) ≤ (fldTo qs 3).length * (1 + 2500) := by
      apply zL_le
      intro l hlm
      obtain ⟨f, _, rfl⟩ := List.mem_map.1 hlm
      show zL tSpan _ ≤ _
      have h3 : zL tSpan (spansL qs (f : Int)) ≤ (spansL qs (f : Int)).length * (1 + 24) := by
        apply zL_le
        intro r hr
        obtain ⟨a, b, s⟩ := r
        rw [tSpan_sz, zL_ints]
        unfold spansL at hr
        split at hr
        · exact spansTo_sets (fun v => stabL_len qs _ v) 100 _ hr
        · exact absurd hr (List.not_mem_nil)
      have h4 : (spansL qs (f : Int)).length ≤ 100 := by
        unfold spansL
        split
        · exact spansTo_len _ 100
        · simp
      omega
    rw [fldTo_len] at h2
    omega
  · decide
end Go.Proofs.Ytidhmgboknffkaa
namespace Go.Proofs.Ytidhmgboknffkaa
open Go.RowKit
set_option linter.unusedVariables false
set_option linter.unusedSimpArgs false
set_option maxHeartbeats 32000000 in
set_option maxRecDepth 100000 in
theorem law_fnExactBuildIndex (v0_0 : Value) (x0_0 : List (Int × Int × List (Int × Int × Int) × List Int)) (r0 : List (Int × Int × List (Int × Int × Int) × List Int) × List (List (Int × Int × List Int))) (w : World) (h0_0 : SlR tQuery w v0_0 x0_0) (o0_0 : tQueryS.ok x0_0) (z0 : tIndex.sz r0 ≤ 1048576)
    (hspec : ∀ (v0_0 : Value) (w : World), SlR tQuery w v0_0 x0_0 → zL tQuery x0_0 ≤ 1048576 → Calls Try.prog 10 #[v0_0] w (fun e w' => ∃ (g0 : List Value) (G0 : Nat → Prop), e = .returned (.agg g0.toArray) ∧ tIndex.O w' G0 g0 r0 ∧ (∀ b, G0 b → w.heap.size ≤ b) ∧ Below w.heap.size w w'))
    (himpl : ∀ (v0_0 : Value) (w : World), SlR tQuery w v0_0 x0_0 → zL tQuery x0_0 ≤ 1048576 → Calls Try.prog 12 #[v0_0] w (fun e w' => ∃ (g0 : List Value) (G0 : Nat → Prop), e = .returned (.agg g0.toArray) ∧ tIndex.O w' G0 g0 r0 ∧ (∀ b, G0 b → w.heap.size ≤ b) ∧ Below w.heap.size w w')) :
    Calls Try.prog 3 #[v0_0] w fun e w' => e = .returned (.bool true) ∧ Below w.heap.size w w' := by
  obtain ⟨c0_0, k0_0, rfl⟩ := slR_len h0_0
  have A0_0 := Lib.hid h0_0
  have O0_0 := Lib.hid o0_0
  clear h0_0 o0_0
  have HSP := Lib.hid hspec
  have HIM := Lib.hid himpl
  clear hspec himpl
  have Z0 := Lib.hid z0
  clear z0
  by_cases c0 : ((zL tQuery x0_0 : Nat) : Int) ≤ (1048576 : Int)
  ·
    have HZ0 : Hid (((zL tQuery x0_0 : Nat) : Int) ≤ (1048576 : Int)) := Lib.hid c0
    have HK0 : Hid ((1048576 : Int) ≤ 1048576) := Lib.hid (by omega)
    have hn0 : ¬ (1048576 : Int) - ((zL tQuery x0_0 : Nat) : Int) < 0 := by omega
    have HT : Hid (zL tQuery x0_0 ≤ 1048576) := Lib.hid (by omega)
    have S0_0 : Hid (zL tQuery x0_0 ≤ 1048576) := Lib.hid (by omega)
    have N0_0 := ndL_le tQuery_law (by decide) x0_0
    have M0 : Hid (0 ≤ (1 : Int) ∧ (1 : Int) ≤ 134217728) := Lib.hid (by have := HT.out; omega)
    have hk : ¬ (1 + (ndL tQuery x0_0 : Int) : Int) < 0 := by omega
    clear N0_0
    obtain ⟨xr0_0, xr0_1⟩ := r0
    have ZZ0 := Z0.out
    rw [tIndex_sz] at ZZ0
    have NR0_0 := ndL_le tQuery_law (by decide) xr0_0
    have Z0_0 : Hid (zL tQuery xr0_0 ≤ 1048576) := Lib.hid (by omega)
    have NR0_1 := ndL_le tSpanS_law (by decide) xr0_1
    have Z0_1 : Hid (zL tSpanS xr0_1 ≤ 1048576) := Lib.hid (by omega)
    have MR0 : Hid (0 ≤ (1 : Int) ∧ (1 : Int) ≤ 134217728) := Lib.hid (by omega)
    have hh0 : ¬ (1 + (ndL tQuery xr0_0 : Int) + (ndL tSpanS xr0_1 : Int) : Int) < 0 := by omega
    have hq : ((1 + (ndL tQuery xr0_0 : Int) + (ndL tSpanS xr0_1 : Int) : Int) != 1 + (ndL tQuery xr0_0 : Int) + (ndL tSpanS xr0_1 : Int)) = false := by simp
    clear ZZ0 NR0_0 NR0_1
    clear c0
    go_enter Try.func3, Try.ntmps3
    go_wp2_with fail
    have d := Lib.hid (Below.refl w.heap.size w)
    refine (szQueryS_Y (.slice c0_0 x0_0.length k0_0) x0_0 ((1048576 : Int)) w (slR_below tQuery_law A0_0.out d.out) HZ0.out HK0.out).mono ?_
    rintro e v1 ⟨rfl, c1⟩
    replace d := Lib.hid (d.out.trans (c1.mono d.out.size))
    have Z_v1 := Lib.hid (show w.heap.size ≤ v1.heap.size from c1.size)
    clear c1
    go_wp2_with fail
    refine (toQueryS_S (.slice c0_0 x0_0.length k0_0) x0_0 v1 (slR_below tQuery_law A0_0.out d.out) S0_0.out).mono ?_
    rintro e v2 ⟨y, rfl, o, c2⟩
    replace d := Lib.hid (d.out.trans (c2.mono d.out.size))
    have Z_v2 := Lib.hid (show v1.heap.size ≤ v2.heap.size from c2.size)
    clear c2
    obtain ⟨ya2, yc2, rfl⟩ := slO_len o
    have P2 := Lib.hid (slO_lt tQuery_law o)
    have Q2 := Lib.hid (fun b (h : since v1 b ∧ b < v2.heap.size) => (show v1.heap.size ≤ b ∧ b < v2.heap.size from h))
    clear o
    go_wp2_with fail
    refine (HSP.out (.slice ya2 x0_0.length yc2) v2 (slO_reads tQuery_law P2.out) HT.out ).mono ?_
    rintro e v3 ⟨g0, G0, rfl, o0, q0, c3⟩
    replace P2 := Lib.hid (slO_fresh tQuery_law P2.out c3)
    replace d := Lib.hid (d.out.trans (c3.mono d.out.size))
    have Z_v3 := Lib.hid (show v2.heap.size ≤ v3.heap.size from c3.size)
    clear c3
    replace o0 := tIndex_law.lt o0
    obtain ⟨y3_0, y3_1, K3_0, K3_1, rfl, p3_0, p3_1, w3_0, w3_1, d3_0_1⟩ := tIndex_O o0
    obtain ⟨ya3_0, yc3_0, rfl⟩ := slO_len p3_0
    have P3_0 := Lib.hid p3_0
    have Q3_0 := Lib.hid (fun b h => (show v2.heap.size ≤ b ∧ b < v3.heap.size from ⟨q0 b (w3_0 b h).1, (w3_0 b h).2⟩))
    obtain ⟨ya3_1, yc3_1, rfl⟩ := slO_len p3_1
    have P3_1 := Lib.hid p3_1
    have Q3_1 := Lib.hid (fun b h => (show v2.heap.size ≤ b ∧ b < v3.heap.size from ⟨q0 b (w3_1 b h).1, (w3_1 b h).2⟩))
    have D3_0_1 := Lib.hid d3_0_1
    clear d3_0_1
    clear p3_0 w3_0 p3_1 w3_1 o0 q0
    have hal : Below v3.heap.size v3 (v3.alloc (.cells #[.slice ya3_0 xr0_0.length yc3_0, .slice ya3_1 xr0_1.length yc3_1] 27)) := (Below.refl _ _).alloc (Nat.le_refl _) _
    have X1 := Lib.hid (heap_alloc_new v3 (.cells #[.slice ya3_0 xr0_0.length yc3_0, .slice ya3_1 xr0_1.length yc3_1] 27))
    have Y_X1 := Lib.hid (show v3.heap.size < (v3.alloc (.cells #[.slice ya3_0 xr0_0.length yc3_0, .slice ya3_1 xr0_1.length yc3_1] 27)).heap.size by simp [World.size_alloc])
    replace P2 := Lib.hid (slO_fresh tQuery_law P2.out hal)
    replace P3_0 := Lib.hid (slO_fresh tQuery_law P3_0.out hal)
    replace P3_1 := Lib.hid (slO_fresh tSpanS_law P3_1.out hal)
    replace d := Lib.hid (d.out.trans (hal.mono d.out.size))
    clear hal
    go_wp2_with fail
    generalize (v3.alloc (.cells #[.slice ya3_0 xr0_0.length yc3_0, .slice ya3_1 xr0_1.length yc3_1] 27)) = u4 at *
    refine (toQueryS_S (.slice c0_0 x0_0.length k0_0) x0_0 u4 (slR_below tQuery_law A0_0.out d.out) S0_0.out).mono ?_
    rintro e v5 ⟨y, rfl, o, c5⟩
    replace X1 := Lib.hid ((c5.block v3.heap.size (Array.getElem?_eq_some_iff.1 X1.out).1).trans X1.out)
    replace P2 := Lib.hid (slO_fresh tQuery_law P2.out c5)
    replace P3_0 := Lib.hid (slO_fresh tQuery_law P3_0.out c5)
    replace P3_1 := Lib.hid (slO_fresh tSpanS_law P3_1.out c5)
    replace d := Lib.hid (d.out.trans (c5.mono d.out.size))
    have Z_v5 := Lib.hid (show u4.heap.size ≤ v5.heap.size from c5.size)
    clear c5
    obtain ⟨ya5, yc5, rfl⟩ := slO_len o
    have P5 := Lib.hid (slO_lt tQuery_law o)
    have Q5 := Lib.hid (fun b (h : since u4 b ∧ b < v5.heap.size) => (show u4.heap.size ≤ b ∧ b < v5.heap.size from h))
    clear o
    go_wp2_with fail
    refine (HIM.out (.slice ya5 x0_0.length yc5) v5 (slO_reads tQuery_law P5.out) HT.out ).mono ?_
    rintro e v6 ⟨g0, G0, rfl, o0, q0, c6⟩
    replace X1 := Lib.hid ((c6.block v3.heap.size (Array.getElem?_eq_some_iff.1 X1.out).1).trans X1.out)
    replace P2 := Lib.hid (slO_fresh tQuery_law P2.out c6)
    replace P3_0 := Lib.hid (slO_fresh tQuery_law P3_0.out c6)
    replace P3_1 := Lib.hid (slO_fresh tSpanS_law P3_1.out c6)
    replace P5 := Lib.hid (slO_fresh tQuery_law P5.out c6)
    replace d := Lib.hid (d.out.trans (c6.mono d.out.size))
    have Z_v6 := Lib.hid (show v5.heap.size ≤ v6.heap.size from c6.size)
    clear c6
    replace o0 := tIndex_law.lt o0
    obtain ⟨y6_0, y6_1, K6_0, K6_1, rfl, p6_0, p6_1, w6_0, w6_1, d6_0_1⟩ := tIndex_O o0
    obtain ⟨ya6_0, yc6_0, rfl⟩ := slO_len p6_0
    have P6_0 := Lib.hid p6_0
    have Q6_0 := Lib.hid (fun b h => (show v5.heap.size ≤ b ∧ b < v6.heap.size from ⟨q0 b (w6_0 b h).1, (w6_0 b h).2⟩))
    obtain ⟨ya6_1, yc6_1, rfl⟩ := slO_len p6_1
    have P6_1 := Lib.hid p6_1
    have Q6_1 := Lib.hid (fun b h => (show v5.heap.size ≤ b ∧ b < v6.heap.size from ⟨q0 b (w6_1 b h).1, (w6_1 b h).2⟩))
    have D6_0_1 := Lib.hid d6_0_1
    clear d6_0_1
    clear p6_0 w6_0 p6_1 w6_1 o0 q0
    have hal : Below v6.heap.size v6 (v6.alloc (.cells #[.slice ya6_0 xr0_0.length yc6_0, .slice ya6_1 xr0_1.length yc6_1] 27)) := (Below.refl _ _).alloc (Nat.le_refl _) _
    have X2 := Lib.hid (heap_alloc_new v6 (.cells #[.slice ya6_0 xr0_0.length yc6_0, .slice ya6_1 xr0_1.length yc6_1] 27))
    have Y_X2 := Lib.hid (show v6.heap.size < (v6.alloc (.cells #[.slice ya6_0 xr0_0.length yc6_0, .slice ya6_1 xr0_1.length yc6_1] 27)).heap.size by simp [World.size_alloc])
    replace X1 := Lib.hid ((hal.block v3.heap.size (Array.getElem?_eq_some_iff.1 X1.out).1).trans X1.out)
    replace P2 := Lib.hid (slO_fresh tQuery_law P2.out hal)
    replace P3_0 := Lib.hid (slO_fresh tQuery_law P3_0.out hal)
    replace P3_1 := Lib.hid (slO_fresh tSpanS_law P3_1.out hal)
    replace P5 := Lib.hid (slO_fresh tQuery_law P5.out hal)
    replace P6_0 := Lib.hid (slO_fresh tQuery_law P6_0.out hal)
    replace P6_1 := Lib.hid (slO_fresh tSpanS_law P6_1.out hal)
    replace d := Lib.hid (d.out.trans (hal.mono d.out.size))
    clear hal
    have p_X1_0 := (cell_of_row (v6.alloc (.cells #[.slice ya6_0 xr0_0.length yc6_0, .slice ya6_1 xr0_1.length yc6_1] 27)) _ 0 _ _ _ X1.out).trans (show _ = some (Value.slice ya3_0 xr0_0.length yc3_0) from rfl)
    have p_X1_1 := (cell_of_row (v6.alloc (.cells #[.slice ya6_0 xr0_0.length yc6_0, .slice ya6_1 xr0_1.length yc6_1] 27)) _ 1 _ _ _ X1.out).trans (show _ = some (Value.slice ya3_1 xr0_1.length yc3_1) from rfl)
    have p_X2_0 := (cell_of_row (v6.alloc (.cells #[.slice ya6_0 xr0_0.length yc6_0, .slice ya6_1 xr0_1.length yc6_1] 27)) _ 0 _ _ _ X2.out).trans (show _ = some (Value.slice ya6_0 xr0_0.length yc6_0) from rfl)
    have p_X2_1 := (cell_of_row (v6.alloc (.cells #[.slice ya6_0 xr0_0.length yc6_0, .slice ya6_1 xr0_1.length yc6_1] 27)) _ 1 _ _ _ X2.out).trans (show _ = some (Value.slice ya6_1 xr0_1.length yc6_1) from rfl)
    go_wp2_with fail
    clear p_X1_0 p_X1_1 p_X2_0 p_X2_1
    generalize (v6.alloc (.cells #[.slice ya6_0 xr0_0.length yc6_0, .slice ya6_1 xr0_1.length yc6_1] 27)) = u7 at *
    refine (eqIndex_T (.slice ya6_0 xr0_0.length yc6_0) (.slice ya6_1 xr0_1.length yc6_1) xr0_0 xr0_1 (.slice ya3_0 xr0_0.length yc3_0) (.slice ya3_1 xr0_1.length yc3_1) u7 (slO_reads tQuery_law P6_0.out) (slO_reads tSpanS_law P6_1.out) (slO_reads tQuery_law P3_0.out) (slO_reads tSpanS_law P3_1.out) Z0_0.out Z0_1.out).mono ?_
    rintro e v8 ⟨rfl, c8⟩
    replace X1 := Lib.hid ((c8.block v3.heap.size (Array.getElem?_eq_some_iff.1 X1.out).1).trans X1.out)
    replace X2 := Lib.hid ((c8.block v6.heap.size (Array.getElem?_eq_some_iff.1 X2.out).1).trans X2.out)
    replace P2 := Lib.hid (slO_fresh tQuery_law P2.out c8)
    replace P3_0 := Lib.hid (slO_fresh tQuery_law P3_0.out c8)
    replace P3_1 := Lib.hid (slO_fresh tSpanS_law P3_1.out c8)
    replace P5 := Lib.hid (slO_fresh tQuery_law P5.out c8)
    replace P6_0 := Lib.hid (slO_fresh tQuery_law P6_0.out c8)
    replace P6_1 := Lib.hid (slO_fresh tSpanS_law P6_1.out c8)
    replace d := Lib.hid (d.out.trans (c8.mono d.out.size))
    have Z_v8 := Lib.hid (show u7.heap.size ≤ v8.heap.size from c8.size)
    clear c8
    go_wp2_with fail
    refine (toQueryS_S (.slice c0_0 x0_0.length k0_0) x0_0 v8 (slR_below tQuery_law A0_0.out d.out) S0_0.out).mono ?_
    rintro e v9 ⟨y, rfl, o, c9⟩
    replace X1 := Lib.hid ((c9.block v3.heap.size (Array.getElem?_eq_some_iff.1 X1.out).1).trans X1.out)
    replace X2 := Lib.hid ((c9.block v6.heap.size (Array.getElem?_eq_some_iff.1 X2.out).1).trans X2.out)
    replace P2 := Lib.hid (slO_fresh tQuery_law P2.out c9)
    replace P3_0 := Lib.hid (slO_fresh tQuery_law P3_0.out c9)
    replace P3_1 := Lib.hid (slO_fresh tSpanS_law P3_1.out c9)
    replace P5 := Lib.hid (slO_fresh tQuery_law P5.out c9)
    replace P6_0 := Lib.hid (slO_fresh tQuery_law P6_0.out c9)
    replace P6_1 := Lib.hid (slO_fresh tSpanS_law P6_1.out c9)
    replace d := Lib.hid (d.out.trans (c9.mono d.out.size))
    have Z_v9 := Lib.hid (show v8.heap.size ≤ v9.heap.size from c9.size)
    clear c9
    obtain ⟨ya9, yc9, rfl⟩ := slO_len o
    have P9 := Lib.hid (slO_lt tQuery_law o)
    have Q9 := Lib.hid (fun b (h : since v8 b ∧ b < v9.heap.size) => (show v8.heap.size ≤ b ∧ b < v9.heap.size from h))
    clear o
    go_wp2_with fail
    refine (eqQueryS_S (.slice ya5 x0_0.length yc5) (.slice ya9 x0_0.length yc9) x0_0 v9 (slO_reads tQuery_law P5.out) (slO_reads tQuery_law P9.out) S0_0.out).mono ?_
    rintro e v10 ⟨rfl, c10⟩
    replace X1 := Lib.hid ((c10.block v3.heap.size (Array.getElem?_eq_some_iff.1 X1.out).1).trans X1.out)
    replace X2 := Lib.hid ((c10.block v6.heap.size (Array.getElem?_eq_some_iff.1 X2.out).1).trans X2.out)
    replace P2 := Lib.hid (slO_fresh tQuery_law P2.out c10)
    replace P3_0 := Lib.hid (slO_fresh tQuery_law P3_0.out c10)
    replace P3_1 := Lib.hid (slO_fresh tSpanS_law P3_1.out c10)
    replace P5 := Lib.hid (slO_fresh tQuery_law P5.out c10)
    replace P6_0 := Lib.hid (slO_fresh tQuery_law P6_0.out c10)
    replace P6_1 := Lib.hid (slO_fresh tSpanS_law P6_1.out c10)
    replace P9 := Lib.hid (slO_fresh tQuery_law P9.out c10)
    replace d := Lib.hid (d.out.trans (c10.mono d.out.size))
    have Z_v10 := Lib.hid (show v9.heap.size ≤ v10.heap.size from c10.size)
    clear c10
    clear P9
    go_wp2_with fail
    refine (markQueryS_S (.slice ya5 x0_0.length yc5) x0_0 _ (1) v10 P5.out S0_0.out M0.out.1 (by have := M0.out.2; omega)).mono ?_
    rintro e v11 ⟨rfl, m0, c11⟩
    have y0 := Z_v1.out
    have y1 := Z_v2.out
    have y2 := Z_v3.out
    have y3 := Y_X1.out
    have y4 := Z_v5.out
    have y5 := Z_v6.out
    have y6 := Y_X2.out
    have y7 := Z_v8.out
    have y8 := Z_v9.out
    have y9 := Z_v10.out
    have yd : w.heap.size ≤ v10.heap.size := d.out.size
    replace X1 := Lib.hid ((c11.block v3.heap.size (Array.getElem?_eq_some_iff.1 X1.out).1 (fun h => by have r2 := Q5.out v3.heap.size h; omega)).trans X1.out)
    replace X2 := Lib.hid ((c11.block v6.heap.size (Array.getElem?_eq_some_iff.1 X2.out).1 (fun h => by have r2 := Q5.out v6.heap.size h; omega)).trans X2.out)
    replace P2 := Lib.hid (slO_turn tQuery_law P2.out c11 (fun b h1 h2 => by have r1 := Q2.out b h1; have r2 := Q5.out b h2; omega))
    replace P3_0 := Lib.hid (slO_turn tQuery_law P3_0.out c11 (fun b h1 h2 => by have r1 := Q3_0.out b h1; have r2 := Q5.out b h2; omega))
    replace P3_1 := Lib.hid (slO_turn tSpanS_law P3_1.out c11 (fun b h1 h2 => by have r1 := Q3_1.out b h1; have r2 := Q5.out b h2; omega))
    replace P6_0 := Lib.hid (slO_turn tQuery_law P6_0.out c11 (fun b h1 h2 => by have r1 := Q6_0.out b h1; have r2 := Q5.out b h2; omega))
    replace P6_1 := Lib.hid (slO_turn tSpanS_law P6_1.out c11 (fun b h1 h2 => by have r1 := Q6_1.out b h1; have r2 := Q5.out b h2; omega))
    replace d := Lib.hid (below_turn d.out c11 (fun b h => by have r2 := Q5.out b h; omega) (by omega))
    clear yd y0 y1 y2 y3 y4 y5 y6 y7 y8 y9
    have Z_v11 := Lib.hid (show v10.heap.size ≤ v11.heap.size from c11.size)
    clear P5
    clear m0 c11
    have p_X1_0 := (cell_of_row v11 _ 0 _ _ _ X1.out).trans (show _ = some (Value.slice ya3_0 xr0_0.length yc3_0) from rfl)
    have p_X1_1 := (cell_of_row v11 _ 1 _ _ _ X1.out).trans (show _ = some (Value.slice ya3_1 xr0_1.length yc3_1) from rfl)
    have p_X2_0 := (cell_of_row v11 _ 0 _ _ _ X2.out).trans (show _ = some (Value.slice ya6_0 xr0_0.length yc6_0) from rfl)
    have p_X2_1 := (cell_of_row v11 _ 1 _ _ _ X2.out).trans (show _ = some (Value.slice ya6_1 xr0_1.length yc6_1) from rfl)
    go_wp2_with fail
    clear p_X1_0 p_X1_1 p_X2_0 p_X2_1
    refine (eqIndex_T (.slice ya6_0 xr0_0.length yc6_0) (.slice ya6_1 xr0_1.length yc6_1) xr0_0 xr0_1 (.slice ya3_0 xr0_0.length yc3_0) (.slice ya3_1 xr0_1.length yc3_1) v11 (slO_reads tQuery_law P6_0.out) (slO_reads tSpanS_law P6_1.out) (slO_reads tQuery_law P3_0.out) (slO_reads tSpanS_law P3_1.out) Z0_0.out Z0_1.out).mono ?_
    rintro e v12 ⟨rfl, c12⟩
    replace X1 := Lib.hid ((c12.block v3.heap.size (Array.getElem?_eq_some_iff.1 X1.out).1).trans X1.out)
    replace X2 := Lib.hid ((c12.block v6.heap.size (Array.getElem?_eq_some_iff.1 X2.out).1).trans X2.out)
    replace P2 := Lib.hid (slO_fresh tQuery_law P2.out c12)
    replace P3_0 := Lib.hid (slO_fresh tQuery_law P3_0.out c12)
    replace P3_1 := Lib.hid (slO_fresh tSpanS_law P3_1.out c12)
    replace P6_0 := Lib.hid (slO_fresh tQuery_law P6_0.out c12)
    replace P6_1 := Lib.hid (slO_fresh tSpanS_law P6_1.out c12)
    replace d := Lib.hid (d.out.trans (c12.mono d.out.size))
    have Z_v12 := Lib.hid (show v11.heap.size ≤ v12.heap.size from c12.size)
    clear c12
    have p_X2_0 := (cell_of_row v12 _ 0 _ _ _ X2.out).trans (show _ = some (Value.slice ya6_0 xr0_0.length yc6_0) from rfl)
    have p_X2_1 := (cell_of_row v12 _ 1 _ _ _ X2.out).trans (show _ = some (Value.slice ya6_1 xr0_1.length yc6_1) from rfl)
    go_wp2_with fail
    clear p_X2_0 p_X2_1
    refine (markIndex_T (.slice ya6_0 xr0_0.length yc6_0) (.slice ya6_1 xr0_1.length yc6_1) xr0_0 xr0_1 (fun b => v5.heap.size ≤ b ∧ b < v6.heap.size) _ _ (1) v12 P6_0.out P6_1.out Q6_0.out Q6_1.out D6_0_1.out Z0_0.out Z0_1.out MR0.out.1 (by have := MR0.out.2; omega)).mono ?_
    rintro e v13 ⟨rfl, ⟨m0, m1⟩, c13⟩
    have y0 := Z_v1.out
    have y1 := Z_v2.out
    have y2 := Z_v3.out
    have y3 := Y_X1.out
    have y4 := Z_v5.out
    have y5 := Z_v6.out
    have y6 := Y_X2.out
    have y7 := Z_v8.out
    have y8 := Z_v9.out
    have y9 := Z_v10.out
    have y10 := Z_v11.out
    have y11 := Z_v12.out
    have yd : w.heap.size ≤ v12.heap.size := d.out.size
    replace X1 := Lib.hid ((c13.block v3.heap.size (Array.getElem?_eq_some_iff.1 X1.out).1 (fun h => by have r2 := h; omega)).trans X1.out)
    replace X2 := Lib.hid ((c13.block v6.heap.size (Array.getElem?_eq_some_iff.1 X2.out).1 (fun h => by have r2 := h; omega)).trans X2.out)
    replace P2 := Lib.hid (slO_turn tQuery_law P2.out c13 (fun b h1 h2 => by have r1 := Q2.out b h1; have r2 := h2; omega))
    replace P3_0 := Lib.hid (slO_turn tQuery_law P3_0.out c13 (fun b h1 h2 => by have r1 := Q3_0.out b h1; have r2 := h2; omega))
    replace P3_1 := Lib.hid (slO_turn tSpanS_law P3_1.out c13 (fun b h1 h2 => by have r1 := Q3_1.out b h1; have r2 := h2; omega))
    replace d := Lib.hid (below_turn d.out c13 (fun b h => by have r2 := h; omega) (by omega))
    clear yd y0 y1 y2 y3 y4 y5 y6 y7 y8 y9 y10 y11
    have Z_v13 := Lib.hid (show v12.heap.size ≤ v13.heap.size from c13.size)
    replace P6_0 := Lib.hid m0
    replace P6_1 := Lib.hid m1
    clear m0 m1 c13
    have p_X2_0 := (cell_of_row v13 _ 0 _ _ _ X2.out).trans (show _ = some (Value.slice ya6_0 xr0_0.length yc6_0) from rfl)
    have p_X2_1 := (cell_of_row v13 _ 1 _ _ _ X2.out).trans (show _ = some (Value.slice ya6_1 xr0_1.length yc6_1) from rfl)
    go_wp2_with fail
    clear p_X2_0 p_X2_1
    refine (heldIndex_T (.slice ya6_0 xr0_0.length yc6_0) (.slice ya6_1 xr0_1.length yc6_1) xr0_0 xr0_1 (1) v13 (slO_reads tQuery_law P6_0.out) (slO_reads tSpanS_law P6_1.out) Z0_0.out Z0_1.out MR0.out.1 (by have := MR0.out.2; omega)).mono ?_
    rintro e v14 ⟨rfl, c14⟩
    replace X1 := Lib.hid ((c14.block v3.heap.size (Array.getElem?_eq_some_iff.1 X1.out).1).trans X1.out)
    replace X2 := Lib.hid ((c14.block v6.heap.size (Array.getElem?_eq_some_iff.1 X2.out).1).trans X2.out)
    replace P2 := Lib.hid (slO_fresh tQuery_law P2.out c14)
    replace P3_0 := Lib.hid (slO_fresh tQuery_law P3_0.out c14)
    replace P3_1 := Lib.hid (slO_fresh tSpanS_law P3_1.out c14)
    replace P6_0 := Lib.hid (slO_fresh tQuery_law P6_0.out c14)
    replace P6_1 := Lib.hid (slO_fresh tSpanS_law P6_1.out c14)
    replace d := Lib.hid (d.out.trans (c14.mono d.out.size))
    have Z_v14 := Lib.hid (show v13.heap.size ≤ v14.heap.size from c14.size)
    clear c14
    go_wp2_with fail
    refine (toQueryS_S (.slice c0_0 x0_0.length k0_0) x0_0 v14 (slR_below tQuery_law A0_0.out d.out) S0_0.out).mono ?_
    rintro e v15 ⟨y, rfl, o, c15⟩
    replace X1 := Lib.hid ((c15.block v3.heap.size (Array.getElem?_eq_some_iff.1 X1.out).1).trans X1.out)
    replace X2 := Lib.hid ((c15.block v6.heap.size (Array.getElem?_eq_some_iff.1 X2.out).1).trans X2.out)
    replace P2 := Lib.hid (slO_fresh tQuery_law P2.out c15)
    replace P3_0 := Lib.hid (slO_fresh tQuery_law P3_0.out c15)
    replace P3_1 := Lib.hid (slO_fresh tSpanS_law P3_1.out c15)
    replace P6_0 := Lib.hid (slO_fresh tQuery_law P6_0.out c15)
    replace P6_1 := Lib.hid (slO_fresh tSpanS_law P6_1.out c15)
    replace d := Lib.hid (d.out.trans (c15.mono d.out.size))
    have Z_v15 := Lib.hid (show v14.heap.size ≤ v15.heap.size from c15.size)
    clear c15
    obtain ⟨ya15, yc15, rfl⟩ := slO_len o
    have P15 := Lib.hid (slO_lt tQuery_law o)
    have Q15 := Lib.hid (fun b (h : since v14 b ∧ b < v15.heap.size) => (show v14.heap.size ≤ b ∧ b < v15.heap.size from h))
    clear o
    go_wp2_with fail
    refine (HIM.out (.slice ya15 x0_0.length yc15) v15 (slO_reads tQuery_law P15.out) HT.out ).mono ?_
    rintro e v16 ⟨g0, G0, rfl, o0, q0, c16⟩
    replace X1 := Lib.hid ((c16.block v3.heap.size (Array.getElem?_eq_some_iff.1 X1.out).1).trans X1.out)
    replace X2 := Lib.hid ((c16.block v6.heap.size (Array.getElem?_eq_some_iff.1 X2.out).1).trans X2.out)
    replace P2 := Lib.hid (slO_fresh tQuery_law P2.out c16)
    replace P3_0 := Lib.hid (slO_fresh tQuery_law P3_0.out c16)
    replace P3_1 := Lib.hid (slO_fresh tSpanS_law P3_1.out c16)
    replace P6_0 := Lib.hid (slO_fresh tQuery_law P6_0.out c16)
    replace P6_1 := Lib.hid (slO_fresh tSpanS_law P6_1.out c16)
    replace P15 := Lib.hid (slO_fresh tQuery_law P15.out c16)
    replace d := Lib.hid (d.out.trans (c16.mono d.out.size))
    have Z_v16 := Lib.hid (show v15.heap.size ≤ v16.heap.size from c16.size)
    clear c16
    replace o0 := tIndex_law.lt o0
    obtain ⟨y16_0, y16_1, K16_0, K16_1, rfl, p16_0, p16_1, w16_0, w16_1, d16_0_1⟩ := tIndex_O o0
    obtain ⟨ya16_0, yc16_0, rfl⟩ := slO_len p16_0
    have P16_0 := Lib.hid p16_0
    have Q16_0 := Lib.hid (fun b h => (show v15.heap.size ≤ b ∧ b < v16.heap.size from ⟨q0 b (w16_0 b h).1, (w16_0 b h).2⟩))
    obtain ⟨ya16_1, yc16_1, rfl⟩ := slO_len p16_1
    have P16_1 := Lib.hid p16_1
    have Q16_1 := Lib.hid (fun b h => (show v15.heap.size ≤ b ∧ b < v16.heap.size from ⟨q0 b (w16_1 b h).1, (w16_1 b h).2⟩))
    have D16_0_1 := Lib.hid d16_0_1
    clear d16_0_1
    clear p16_0 w16_0 p16_1 w16_1 o0 q0
    have hal : Below v16.heap.size v16 (v16.alloc (.cells #[.slice ya16_0 xr0_0.length yc16_0, .slice ya16_1 xr0_1.length yc16_1] 27)) := (Below.refl _ _).alloc (Nat.le_refl _) _
    have X3 := Lib.hid (heap_alloc_new v16 (.cells #[.slice ya16_0 xr0_0.length yc16_0, .slice ya16_1 xr0_1.length yc16_1] 27))
    have Y_X3 := Lib.hid (show v16.heap.size < (v16.alloc (.cells #[.slice ya16_0 xr0_0.length yc16_0, .slice ya16_1 xr0_1.length yc16_1] 27)).heap.size by simp [World.size_alloc])
    replace X1 := Lib.hid ((hal.block v3.heap.size (Array.getElem?_eq_some_iff.1 X1.out).1).trans X1.out)
    replace X2 := Lib.hid ((hal.block v6.heap.size (Array.getElem?_eq_some_iff.1 X2.out).1).trans X2.out)
    replace P2 := Lib.hid (slO_fresh tQuery_law P2.out hal)
    replace P3_0 := Lib.hid (slO_fresh tQuery_law P3_0.out hal)
    replace P3_1 := Lib.hid (slO_fresh tSpanS_law P3_1.out hal)
    replace P6_0 := Lib.hid (slO_fresh tQuery_law P6_0.out hal)
    replace P6_1 := Lib.hid (slO_fresh tSpanS_law P6_1.out hal)
    replace P15 := Lib.hid (slO_fresh tQuery_law P15.out hal)
    replace P16_0 := Lib.hid (slO_fresh tQuery_law P16_0.out hal)
    replace P16_1 := Lib.hid (slO_fresh tSpanS_law P16_1.out hal)
    replace d := Lib.hid (d.out.trans (hal.mono d.out.size))
    clear hal
    have p_X1_0 := (cell_of_row (v16.alloc (.cells #[.slice ya16_0 xr0_0.length yc16_0, .slice ya16_1 xr0_1.length yc16_1] 27)) _ 0 _ _ _ X1.out).trans (show _ = some (Value.slice ya3_0 xr0_0.length yc3_0) from rfl)
    have p_X1_1 := (cell_of_row (v16.alloc (.cells #[.slice ya16_0 xr0_0.length yc16_0, .slice ya16_1 xr0_1.length yc16_1] 27)) _ 1 _ _ _ X1.out).trans (show _ = some (Value.slice ya3_1 xr0_1.length yc3_1) from rfl)
    have p_X3_0 := (cell_of_row (v16.alloc (.cells #[.slice ya16_0 xr0_0.length yc16_0, .slice ya16_1 xr0_1.length yc16_1] 27)) _ 0 _ _ _ X3.out).trans (show _ = some (Value.slice ya16_0 xr0_0.length yc16_0) from rfl)
    have p_X3_1 := (cell_of_row (v16.alloc (.cells #[.slice ya16_0 xr0_0.length yc16_0, .slice ya16_1 xr0_1.length yc16_1] 27)) _ 1 _ _ _ X3.out).trans (show _ = some (Value.slice ya16_1 xr0_1.length yc16_1) from rfl)
    go_wp2_with fail
    clear p_X1_0 p_X1_1 p_X3_0 p_X3_1
    generalize (v16.alloc (.cells #[.slice ya16_0 xr0_0.length yc16_0, .slice ya16_1 xr0_1.length yc16_1] 27)) = u17 at *
    refine (eqIndex_T (.slice ya16_0 xr0_0.length yc16_0) (.slice ya16_1 xr0_1.length yc16_1) xr0_0 xr0_1 (.slice ya3_0 xr0_0.length yc3_0) (.slice ya3_1 xr0_1.length yc3_1) u17 (slO_reads tQuery_law P16_0.out) (slO_reads tSpanS_law P16_1.out) (slO_reads tQuery_law P3_0.out) (slO_reads tSpanS_law P3_1.out) Z0_0.out Z0_1.out).mono ?_
    rintro e v18 ⟨rfl, c18⟩
    replace X1 := Lib.hid ((c18.block v3.heap.size (Array.getElem?_eq_some_iff.1 X1.out).1).trans X1.out)
    replace X2 := Lib.hid ((c18.block v6.heap.size (Array.getElem?_eq_some_iff.1 X2.out).1).trans X2.out)
    replace X3 := Lib.hid ((c18.block v16.heap.size (Array.getElem?_eq_some_iff.1 X3.out).1).trans X3.out)
    replace P2 := Lib.hid (slO_fresh tQuery_law P2.out c18)
    replace P3_0 := Lib.hid (slO_fresh tQuery_law P3_0.out c18)
    replace P3_1 := Lib.hid (slO_fresh tSpanS_law P3_1.out c18)
    replace P6_0 := Lib.hid (slO_fresh tQuery_law P6_0.out c18)
    replace P6_1 := Lib.hid (slO_fresh tSpanS_law P6_1.out c18)
    replace P15 := Lib.hid (slO_fresh tQuery_law P15.out c18)
    replace P16_0 := Lib.hid (slO_fresh tQuery_law P16_0.out c18)
    replace P16_1 := Lib.hid (slO_fresh tSpanS_law P16_1.out c18)
    replace d := Lib.hid (d.out.trans (c18.mono d.out.size))
    have Z_v18 := Lib.hid (show u17.heap.size ≤ v18.heap.size from c18.size)
    clear c18
    have p_X2_0 := (cell_of_row v18 _ 0 _ _ _ X2.out).trans (show _ = some (Value.slice ya6_0 xr0_0.length yc6_0) from rfl)
    have p_X2_1 := (cell_of_row v18 _ 1 _ _ _ X2.out).trans (show _ = some (Value.slice ya6_1 xr0_1.length yc6_1) from rfl)
    go_wp2_with fail
    clear p_X2_0 p_X2_1
    refine (heldIndex_T (.slice ya6_0 xr0_0.length yc6_0) (.slice ya6_1 xr0_1.length yc6_1) xr0_0 xr0_1 (1) v18 (slO_reads tQuery_law P6_0.out) (slO_reads tSpanS_law P6_1.out) Z0_0.out Z0_1.out MR0.out.1 (by have := MR0.out.2; omega)).mono ?_
    rintro e v19 ⟨rfl, c19⟩
    replace X1 := Lib.hid ((c19.block v3.heap.size (Array.getElem?_eq_some_iff.1 X1.out).1).trans X1.out)
    replace X2 := Lib.hid ((c19.block v6.heap.size (Array.getElem?_eq_some_iff.1 X2.out).1).trans X2.out)
    replace X3 := Lib.hid ((c19.block v16.heap.size (Array.getElem?_eq_some_iff.1 X3.out).1).trans X3.out)
    replace P2 := Lib.hid (slO_fresh tQuery_law P2.out c19)
    replace P3_0 := Lib.hid (slO_fresh tQuery_law P3_0.out c19)
    replace P3_1 := Lib.hid (slO_fresh tSpanS_law P3_1.out c19)
    replace P6_0 := Lib.hid (slO_fresh tQuery_law P6_0.out c19)
    replace P6_1 := Lib.hid (slO_fresh tSpanS_law P6_1.out c19)
    replace P15 := Lib.hid (slO_fresh tQuery_law P15.out c19)
    replace P16_0 := Lib.hid (slO_fresh tQuery_law P16_0.out c19)
    replace P16_1 := Lib.hid (slO_fresh tSpanS_law P16_1.out c19)
    replace d := Lib.hid (d.out.trans (c19.mono d.out.size))
    have Z_v19 := Lib.hid (show v18.heap.size ≤ v19.heap.size from c19.size)
    clear c19
    go_wp2
    go_ret
    exact ⟨rfl, d.out⟩
  ·
    have HZ0 : Hid ((1048576 : Int) < ((zL tQuery x0_0 : Nat) : Int)) := Lib.hid (by omega)
    have HP0 : Hid (0 ≤ (1048576 : Int)) := Lib.hid (by omega)
    have HK0 : Hid ((1048576 : Int) ≤ 1048576) := Lib.hid (by omega)
    clear c0
    go_enter Try.func3, Try.ntmps3
    go_wp2_with fail
    have d := Lib.hid (Below.refl w.heap.size w)
    refine (szQueryS_N (.slice c0_0 x0_0.length k0_0) x0_0 ((1048576 : Int)) w (slR_below tQuery_law A0_0.out d.out) HZ0.out HK0.out HP0.out O0_0.out).mono ?_
    rintro e v1 ⟨rfl, c1⟩
    replace d := Lib.hid (d.out.trans (c1.mono d.out.size))
    have Z_v1 := Lib.hid (show w.heap.size ≤ v1.heap.size from c1.size)
    clear c1
    go_wp2
    go_ret
    exact ⟨rfl, d.out⟩
end Go.Proofs.Ytidhmgboknffkaa
namespace Go.Proofs.Ytidhmgboknffkaa
open Go.ChangeShapes Go.WideShapes Go.ChangeAt Go.WideMaps Go.WideElems Go.RowKit
set_option linter.unusedVariables false
theorem laidOutP : laidOutB Try.prog = true := by kernel_rfl
end Go.Proofs.Ytidhmgboknffkaa
namespace Go.Proofs.Ytidhmgboknffkaa
open Go.ChangeShapes Go.WideShapes Go.ChangeAt Go.WideMaps Go.WideElems Go.RowKit
set_option linter.unusedVariables false
/-- Cells that the statement reads as a value of the type t are a datum of the kind T. -/
def Opn {α : Type} (T : Ty α) (t : TypeId) : Prop := ∀ {H : Type} {enc : TypeId × Value → H} {W : World} {held : Bool} {fuel : Nat} {cs : List Value} {x : DataW H × List MemPlace}, DataW.trod enc Try.prog W 0 (fun _ => true) held fuel t cs = some x → ∃ d, T.R W cs d ∧ T.ok d
theorem opn_int : Opn tInt 3 := by
  intro H enc W held fuel cs x h
  obtain ⟨a, e, _, _⟩ := DataW.trod_int Try.underlying3 h
  exact ⟨a, e, trivial⟩
theorem opn_cast {α : Type} {T : Ty α} {t : TypeId} (O : Opn T t) {H : Type} {enc : TypeId × Value → H} {W : World} {held : Bool} {fuel : Nat} {cs : List Value} {o k : Nat} {x : Option (DataW H × List MemPlace)} (hx : x.isSome) (h : DataW.trod enc Try.prog W 0 (fun _ => true) held fuel t ((cs.drop o).take k) = x) :
    ∃ d, T.R W ((cs.drop o).take k) d ∧ T.ok d := by
  cases x with
  | none => cases hx
  | some y => exact O h
set_option maxRecDepth 100000 in
theorem opn_slice {α : Type} {T : Ty α} (A : T.Law) {e t : TypeId} (e' : TypeId) (O : Opn T e) (hu : Try.prog.underlying t = some (.slice e)) (hC : Try.prog.cellsOf e = T.n) : Opn (tSl e' T) t := by
  intro H enc W held fuel cs x hf
  rcases Go.Deep.open_slice hu hf with ⟨rfl, _⟩ | ⟨a', len', cap', m, n, D, Pl, rfl, _, hl, hm, hmm, _, hx⟩
  · exact ⟨[], ⟨_, rfl, Or.inl ⟨rfl, none, 0, rfl⟩⟩, by simp, fun j hj => by simp at hj⟩
  · rw [if_pos rfl] at hmm
    subst hmm
    unfold maxLen at hm
    rw [hC] at hx
    have hpos := A.pos
    haveI : Inhabited α := ⟨T.d⟩
    obtain ⟨f, hf'⟩ := Go.Deep.choose_lt (α := α × List Value) (n := len') (p := fun i q => (∀ j, j < T.n → W.cell? ((a'.add (i * T.n)).add j) = q.2[j]?) ∧ T.R W q.2 q.1 ∧ T.ok q.1) (fun i hi => by
      obtain ⟨cs', h1, h2⟩ := hx i (by omega)
      obtain ⟨_, hlen, hc⟩ := World.cells?_some h1
      obtain ⟨d, hd, ho⟩ := O h2
      exact ⟨(d, cs'), hc, hd, ho⟩)
    have hat : ∀ j, j < len' → ((List.range len').map fun i => (f i).1).getD j T.d = (f j).1 := fun j hj => by simp [List.getD, hj]
    have hlen : ((List.range len').map fun i => (f i).1).length = len' := by simp
    refine ⟨(List.range len').map fun i => (f i).1, ⟨_, rfl, ?_⟩, by rw [hlen]; omega, fun j hj => by rw [hlen] at hj; rw [hat j hj]; exact (hf' j hj).2.2⟩
    by_cases h0 : len' = 0
    · subst h0
      exact Or.inl ⟨rfl, some a', _, rfl⟩
    · have h1 := (hf' 0 (by omega)).1 0 hpos
      have hcl : 0 < (f 0).2.length := by rw [A.len (hf' 0 (by omega)).2.1]; exact hpos
      rw [List.getElem?_eq_getElem hcl] at h1
      obtain ⟨b, off, spot⟩ := a'
      have hspot : spot = none := by simpa [Addr.add] using World.cell?_spot h1
      subst hspot
      refine Or.inr ⟨b, off, _, fun i => (f i).2, by rw [hlen], by rw [hlen]; exact hl, ?_, ?_⟩
      · have := World.block_lt_of_cell? W _ h1
        simpa [Addr.add] using this
      · intro j hj
        rw [hlen] at hj
        obtain ⟨g1, g2, _⟩ := hf' j hj
        rw [hat j hj]
        refine ⟨fun i hi => ?_, g2⟩
        have := g1 i hi
        rw [Go.WideShapes.add_plain, Go.WideShapes.add_plain] at this
        exact this
theorem opn_ints (e' : TypeId) : Opn (tSl e' tInt) 50 := opn_slice tInt_law e' opn_int Try.underlying50 (by kernel_rfl)
set_option maxRecDepth 100000 in
/-- A slice as an argument. -/
theorem slA_open {α : Type} {T : Ty α} {e e' t : TypeId} (O : Opn (tSl e' T) t) (hu : Try.prog.underlying t = some (.slice e)) {H : Type} {enc : TypeId × Value → H} {W : World} {r : Reach} {b0 : Nat} {v : Value} {d : DataW H} {p : List MemPlace}
    (hval : Value.okWide Try.prog W r b0 t v) (h : DataW.Trod enc Try.prog W 0 (fun _ => true) true t v d p) : ∃ xs, SlR T W v xs ∧ (tSl e' T).ok xs := by
  obtain ⟨a, len, cap, rfl⟩ := okWide_slice hu hval
  obtain ⟨fuel, hf⟩ := h
  obtain ⟨xs, ⟨v, e, h⟩, ho⟩ := O hf
  simp [Value.cells] at e
  subst e
  exact ⟨xs, h, ho⟩
end Go.Proofs.Ytidhmgboknffkaa
namespace Go.Proofs.Ytidhmgboknffkaa
open Go.ChangeShapes Go.WideShapes Go.ChangeAt Go.WideMaps Go.WideElems Go.RowKit
set_option linter.unusedVariables false
set_option maxRecDepth 100000 in
theorem opn_Cond : Opn tCond 133 := by
  intro H enc W held fuel cs x h
  obtain ⟨xs, n, _, _, hl, hlen, hf⟩ := DataW.trod_struct Try.underlying133 h
  have hl2 : cs.length = 3 := hl.trans (by kernel_rfl)
  have hn : xs.length = 3 := hlen
  have f0 : DataW.trod enc Try.prog W 0 (fun _ => true) held n 3 ((cs.drop 0).take (Try.prog.cellsOf 3)) = xs[0]? := hf 0 _ rfl
  rw [show Try.prog.cellsOf 3 = 1 from by kernel_rfl] at f0
  obtain ⟨d0, r0, o0⟩ := opn_cast (opn_int) (by rw [List.getElem?_eq_getElem (by omega)]; rfl) f0
  have f1 : DataW.trod enc Try.prog W 0 (fun _ => true) held n 3 ((cs.drop 1).take (Try.prog.cellsOf 3)) = xs[1]? := hf 1 _ rfl
  rw [show Try.prog.cellsOf 3 = 1 from by kernel_rfl] at f1
  obtain ⟨d1, r1, o1⟩ := opn_cast (opn_int) (by rw [List.getElem?_eq_getElem (by omega)]; rfl) f1
  have f2 : DataW.trod enc Try.prog W 0 (fun _ => true) held n 3 ((cs.drop 2).take (Try.prog.cellsOf 3)) = xs[2]? := hf 2 _ rfl
  rw [show Try.prog.cellsOf 3 = 1 from by kernel_rfl] at f2
  obtain ⟨d2, r2, o2⟩ := opn_cast (opn_int) (by rw [List.getElem?_eq_getElem (by omega)]; rfl) f2
  exact ⟨(d0, d1, d2), ⟨(cs.drop 0).take 1, cs.drop 1, (List.take_append_drop 1 cs).symm, r0, ⟨(cs.drop 1).take 1, cs.drop 2, (List.take_append_drop 1 (cs.drop 1)).symm.trans (by simp), r1, (by have e := List.take_of_length_le (l := cs.drop 2) (i := 1) (by rw [List.length_drop]; omega); rw [e] at r2; exact r2)⟩⟩, ⟨o0, ⟨o1, o2⟩⟩⟩
end Go.Proofs.Ytidhmgboknffkaa
namespace Go.Proofs.Ytidhmgboknffkaa
open Go.ChangeShapes Go.WideShapes Go.ChangeAt Go.WideMaps Go.WideElems Go.RowKit
set_option linter.unusedVariables false
theorem opn_CondS : Opn tCondS 66 := opn_slice tCond_law _ opn_Cond Try.underlying66 (by kernel_rfl)
end Go.Proofs.Ytidhmgboknffkaa
namespace Go.Proofs.Ytidhmgboknffkaa
open Go.ChangeShapes Go.WideShapes Go.ChangeAt Go.WideMaps Go.WideElems Go.RowKit
set_option linter.unusedVariables false
set_option maxRecDepth 100000 in
theorem opn_Query : Opn tQuery 68 := by
  intro H enc W held fuel cs x h
  obtain ⟨xs, n, _, _, hl, hlen, hf⟩ := DataW.trod_struct Try.underlying68 h
  have hl2 : cs.length = 4 := hl.trans (by kernel_rfl)
  have hn : xs.length = 4 := hlen
  have f0 : DataW.trod enc Try.prog W 0 (fun _ => true) held n 3 ((cs.drop 0).take (Try.prog.cellsOf 3)) = xs[0]? := hf 0 _ rfl
  rw [show Try.prog.cellsOf 3 = 1 from by kernel_rfl] at f0
  obtain ⟨d0, r0, o0⟩ := opn_cast (opn_int) (by rw [List.getElem?_eq_getElem (by omega)]; rfl) f0
  have f1 : DataW.trod enc Try.prog W 0 (fun _ => true) held n 3 ((cs.drop 1).take (Try.prog.cellsOf 3)) = xs[1]? := hf 1 _ rfl
  rw [show Try.prog.cellsOf 3 = 1 from by kernel_rfl] at f1
  obtain ⟨d1, r1, o1⟩ := opn_cast (opn_int) (by rw [List.getElem?_eq_getElem (by omega)]; rfl) f1
  have f2 : DataW.trod enc Try.prog W 0 (fun _ => true) held n 66 ((cs.drop 2).take (Try.prog.cellsOf 66)) = xs[2]? := hf 2 _ rfl
  rw [show Try.prog.cellsOf 66 = 1 from by kernel_rfl] at f2
  obtain ⟨d2, r2, o2⟩ := opn_cast (opn_CondS) (by rw [List.getElem?_eq_getElem (by omega)]; rfl) f2
  have f3 : DataW.trod enc Try.prog W 0 (fun _ => true) held n 50 ((cs.drop 3).take (Try.prog.cellsOf 50)) = xs[3]? := hf 3 _ rfl
  rw [show Try.prog.cellsOf 50 = 1 from by kernel_rfl] at f3
  obtain ⟨d3, r3, o3⟩ := opn_cast (opn_ints 3) (by rw [List.getElem?_eq_getElem (by omega)]; rfl) f3
  exact ⟨(d0, d1, d2, d3), ⟨(cs.drop 0).take 1, cs.drop 1, (List.take_append_drop 1 cs).symm, r0, ⟨(cs.drop 1).take 1, cs.drop 2, (List.take_append_drop 1 (cs.drop 1)).symm.trans (by simp), r1, ⟨(cs.drop 2).take 1, cs.drop 3, (List.take_append_drop 1 (cs.drop 2)).symm.trans (by simp), r2, (by have e := List.take_of_length_le (l := cs.drop 3) (i := 1) (by rw [List.length_drop]; omega); rw [e] at r3; exact r3)⟩⟩⟩, ⟨o0, ⟨o1, ⟨o2, o3⟩⟩⟩⟩
end Go.Proofs.Ytidhmgboknffkaa
namespace Go.Proofs.Ytidhmgboknffkaa
open Go.ChangeShapes Go.WideShapes Go.ChangeAt Go.WideMaps Go.WideElems Go.RowKit
set_option linter.unusedVariables false
theorem recT_QueryS : Try.prog.readableRec 22 = true := by kernel_rfl
theorem rowT_QueryS : 22 < Try.prog.types.size := of_decide_eq_true (by kernel_rfl)
theorem opn_QueryS : Opn tQueryS 22 := opn_slice tQuery_law _ opn_Query Try.underlying22 (by kernel_rfl)
set_option maxRecDepth 100000 in
theorem shut_QueryS {H : Type} {enc : TypeId × Value → H} {W W' : World} {v : Value} {d : DataW H} {ps : List MemPlace} (h : DataW.Trod enc Try.prog W 0 (fun _ => true) true 22 v d ps) (hb : Below W.heap.size W W') (hlt : ∀ x ∈ ps, x.block < W.heap.size) :
    DataW.Trod enc Try.prog W' 0 (fun b => decide (b < W.heap.size)) true 22 v d ps := Below.trod laidOutP recT_QueryS rowT_QueryS h hb hlt
end Go.Proofs.Ytidhmgboknffkaa
