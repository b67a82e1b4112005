/-
 Texts of the proof, merged: StabIdxP, SpanEqP, FieldsEqP, IsIndexP.
-/
import Derived.Test.YtededfficggkaaaDoorI4
import Derived.Test.YtededfficggkaaaDoorI10
import Derived.Test.YtededfficggkaaaDoorI11
import Derived.Test.YtededfficggkaaaDoorI12
import Derived.Test.YtededfficggkaaaDoorI17
import Derived.Test.YtededfficggkaaaDoorI21
import Derived.Test.YtededfficggkaaaDoorI22
namespace Go.Proofs.YtededfficggkaaaDoor
open Go.RowKit
set_option linter.unusedVariables false
set_option linter.unusedSimpArgs false
set_option maxHeartbeats 8000000 in
set_option maxRecDepth 100000 in
theorem implStabIndexes (v : Value) (qs : List QD) (w : World) (h : QueriesR w v qs) (hs : szQL qs ≤ 1048576) :
  Calls Tryd.prog 89 #[v] w (FreshS 37 tSpanS w (fldTo qs 3)) := by
 obtain ⟨i0, hi, hz0, hz1⟩ : ∃ i0, Tryd.prog.info? 37 = some i0 ∧ i0.zero = some (.slice none 0 0) ∧ i0.size = 1 := by
  have h0 := Tryd.info_SpanS
  cases q : Tryd.prog.info? 37 with
  | none => rw [q] at h0; simp at h0
  | some i => rw [q] at h0; simp only [Option.map_some, Option.some.injEq, Prod.mk.injEq] at h0; exact ⟨i, rfl, h0.1, h0.2⟩
 have hz2 : i0.bytes ≤ 512 := by
  have h0 := Tryd.bytes_SpanS
  rw [hi] at h0
  simpa using h0
 have HI := Lib.hid hi; have HZ0 := Lib.hid hz0; have HZ1 := Lib.hid hz1; have HZ2 := Lib.hid hz2
 clear hi hz0 hz1 hz2
 have H := Lib.hid h
 have HS := Lib.hid hs
 obtain ⟨a, cap, rfl⟩ := queriesR_len h
 have HAT : Hid (∀ k, k < 3 → (fldTo qs 3).getD k [] = spansL qs (k : Int)) := Lib.hid (fun k hk => fldTo_at qs hk)
 have hxl := fldTo_len qs 3
 generalize fldTo qs 3 = xs at *
 have HXL := Lib.hid hxl
 clear hxl
 clear h hs
 go_enter Tryd.func89, Tryd.ntmps89
 go_wp2_with (at_make; refine wpList_make_full _ rfl (.const (.int .i64 3)) (.const (.int .i64 3)) 47 rfl w.heap.size 37 i0 (.slice none 0 0) 1 Tryd.underlying47 HI.out HZ0.out HZ1.out _ _ _ _ 3 rfl rfl rfl rfl (by have := HZ2.out; omega) (by decide) (Nat.le_refl _) ?_)
 intro w1 hown0 hg0
 have hown1 : SlO 37 tSpanS w1 (since w) (.slice (some ⟨w.heap.size, 0, none⟩) 3 3) (List.replicate 3 tSpanS.d) := slO_made (z := #[.slice none 0 0]) tSpanS_law rfl (tSpanS_zero w1) (Nat.le_refl _) hown0
 have hbel1 := (Below.refl w.heap.size w).grown hg0 (Nat.le_refl _) (fun k hk => by cases hk)
 clear hown0 hg0
 go_wp2
 go_loopw [8] (fun i wr => ∃ k : Nat, k ≤ 3 ∧ i = .int .i64 k ∧ SlO 37 tSpanS wr (since w) (.slice (some ⟨w.heap.size, 0, none⟩) 3 3) (xs.take k ++ List.replicate (xs.length - k) tSpanS.d) ∧ Below w.heap.size w wr) (fun i _ => 3 - (intOf i).toNat)
 case atStart => exact ⟨0, Nat.zero_le _, rfl, by have := hown1; simpa [HXL.out] using this, hbel1⟩
 case round =>
  obtain ⟨k, hk, rfl, hown, hbel⟩ := hrel
  by_cases hlt : k < 3
  ·
   have HSET := Lib.hid (cTo_step (d := tSpanS.d) (show k < xs.length by rw [HXL.out]; exact hlt))
   have HKL : Hid (k < (xs.take k ++ List.replicate (xs.length - k) tSpanS.d).length) := Lib.hid (by rw [cTo_len (by rw [HXL.out]; exact hk), HXL.out]; exact hlt)
   have HLL : Hid ((xs.take k ++ List.replicate (xs.length - k) tSpanS.d).length = 3) := Lib.hid (by rw [cTo_len (by rw [HXL.out]; exact hk), HXL.out])
   have i1 : (0 : Int) ≤ (k : Int) := by omega
   have i2 : (k : Int) < 3 := by omega
   have HE := Lib.hid (HAT.out k hlt)
   rw [show tSpanS.d = ([] : List SpanD) from rfl] at *
   obtain ⟨hme, hFg, hgl, cj, Fj, Lc, hrow, hLc, hO, hFj, hput⟩ := slO_open tSpanS_law hown HKL.out
   clear hme
   clear hown1 hbel1
   generalize xs.getD k [] = x at *
   have HYS : Hid (∃ ys, ys = xs.take k ++ List.replicate (xs.length - k) ([] : List SpanD)) := Lib.hid ⟨_, rfl⟩
   generalize xs.take k ++ List.replicate (xs.length - k) ([] : List SpanD) = ys at *
   have HC := Lib.hid (fun w g => implStabIndex (.slice a qs.length cap) qs (k : Int) w g HS.out)
   rw [← HE.out] at HC
   go_wp2_with fail
   refine (HC.out _ (queriesR_below H.out hbel)).mono ?_
   rintro e w2 ⟨u2, rfl, ow00, b2⟩
   have ow0 := fresh_spans ow00
   clear ow00
   replace ow0 := slO_lt tSpan_law ow0
   obtain ⟨ua, uc, rfl⟩ := slO_len ow0
   have ow : tSpanS.O w2 (fun b => since wr b ∧ b < w2.heap.size) [.slice ua x.length uc] x := ⟨_, rfl, ow0⟩
   have r0 := row_turn (G := fun _ => False) hrow (turn_below b2) (fun _ _ => not_false)
   rw [HLL.out] at r0
   have q0 : ∃ x, w2.cell? ⟨w.heap.size, k, none⟩ = some x := ⟨_, (World.ownsRow.cellAt r0 (k) (by have := HKL.out; rw [HLL.out] at this; show _ < 3 * 1; omega)).trans (List.getElem?_eq_getElem (by have h1 : Lc.length = 3 * 1 := r0.1; omega))⟩
   obtain ⟨y0, q0⟩ := q0
   have f0 := World.ownsRow.frozenAt r0 (k)
   have b3 := hbel.trans (b2.mono hbel.size)
   have B3 := Lib.hid (b3.setCell (p := ⟨w.heap.size, k, none⟩) (Nat.le_refl _) (.slice ua x.length uc))
   have hT : Turn (fun b => b = w.heap.size ∨ Fj b ∨ wr.heap.size ≤ b) wr (w2.setCell ⟨w.heap.size, k, none⟩ (.slice ua x.length uc)) := ((turn_below b2).trans (turn_set (j := k) (u := .slice ua x.length uc) (Or.inl rfl)))
   have hT2 : Turn (fun b => b = w.heap.size) w2 (w2.setCell ⟨w.heap.size, k, none⟩ (.slice ua x.length uc)) := ((Turn.refl (fun b => b = w.heap.size) _).trans (turn_set (G := fun b => b = w.heap.size) (j := k) (u := .slice ua x.length uc) rfl))
   have hO2 := tSpanS_law.turn ow hT2 (fun b h1 h2 => by have := h1.1; simp only [since] at this; omega)
   have r9 := (World.ownsRow.stored r0 (k) (.slice ua x.length uc)).1
   have hLl : Lc.length = 3 * 1 := r0.1
   have hst := Lib.hid (hput (w2.setCell ⟨w.heap.size, k, none⟩ (.slice ua x.length uc)) (Lc.set (k) (.slice ua x.length uc)) [.slice ua x.length uc] _ x (by rw [HLL.out]; exact r9) (fun p hp => by have hp2 : p < k * 1 ∨ k * 1 + 1 ≤ p := hp; rw [List.getElem?_set_ne (by omega)]) (fun i hi => by have hi2 : i < 1 := hi; obtain rfl : i = 0 := (by omega); have e0 : k * tSpanS.n + 0 = k := (by show k * 1 + 0 = k; omega); rw [e0]; exact List.getElem?_set_self (by omega)) hO2 (fun b hb => ⟨Nat.le_trans hbel.size hb.1, Or.inr hb.1⟩) hT)
   have hst2 : SlO 37 tSpanS (w2.setCell ⟨w.heap.size, k, none⟩ (.slice ua x.length uc)) (since w) (.slice (some ⟨w.heap.size, 0, none⟩) 3 3) (xs.take (k + 1) ++ List.replicate (xs.length - (k + 1)) ([] : List SpanD)) := by have := hst.out; rw [HSET.out] at this; exact this
   have HST := Lib.hid hst2
   clear hst hst2 hT hT2 hO2 r9 r0 hrow hO hput hown hbel b2 ow b3 hLl hLc hFj
   go_wp2
   go_roundw
   case rel => exact ⟨k + 1, by omega, by go_num, HST.out, B3.out⟩
   case measure => simp [intOf]; omega
  ·
   obtain rfl : k = 3 := by omega
   have HE : Hid (xs.take 3 ++ List.replicate (xs.length - 3) tSpanS.d = xs) := Lib.hid (by rw [← HXL.out]; simp)
   rw [HE.out] at hown
   go_wp2
   go_ret
   exact ⟨_, rfl, hown, hbel⟩
theorem span_eq3 {fr tt fr2 tt2 : Int} {xs ys : List Int} (h1 : fr = fr2) (h2 : tt = tt2) : decide (((fr, tt, xs) : SpanD) = (fr2, tt2, ys)) = decide (xs = ys) := by subst h1; subst h2; simp
set_option maxHeartbeats 8000000 in
set_option maxRecDepth 100000 in
theorem equalSpan_any (fr tt fr2 tt2 : Int) (v u : Value) (xs ys : List Int) (w : World) (h : Ints w v xs) (g : Ints w u ys) (hn : xs.length ≤ 1048576) (hm : ys.length ≤ 1048576) :
  Calls Tryd.prog 67 #[.agg #[.int .i64 fr, .int .i64 tt, v], .agg #[.int .i64 fr2, .int .i64 tt2, u]] w fun e w' => e = .returned (.bool (decide (((fr, tt, xs) : SpanD) = (fr2, tt2, ys)))) ∧ Below w.heap.size w w' := by
 obtain ⟨va, vcap, rfl⟩ := ints_len h
 obtain ⟨ua, ucap, rfl⟩ := ints_len g
 have hb : Below w.heap.size w ((w.alloc (.cells #[.int .i64 fr, .int .i64 tt, .slice va xs.length vcap] 43)).alloc (.cells #[.int .i64 fr2, .int .i64 tt2, .slice ua ys.length ucap] 43)) := ((Below.refl _ w).alloc (Nat.le_refl _) _).alloc (by simp) _
 have HQ := Lib.hid (fun w h g => equalInts_any (.slice va xs.length vcap) (.slice ua ys.length ucap) xs ys w h g hn hm)
 have HV := Lib.hid (ints_below h hb)
 have HU := Lib.hid (ints_below g hb)
 clear h g hn hm
 by_cases h1 : fr = fr2
 ·
  by_cases h2 : tt = tt2
  ·
   have HE := Lib.hid (span_eq3 (xs := xs) (ys := ys) h1 h2)
   have e1 : (fr == fr2) = true := by simp [h1]
   have e2 : (tt == tt2) = true := by simp [h2]
   rw [HE.out]
   generalize decide (xs = ys) = r at *
   clear h1 h2 HE
   go_enter Tryd.func67, Tryd.ntmps67
   go_wp2_with fail
   generalize ((w.alloc (.cells #[.int .i64 fr, .int .i64 tt, .slice va xs.length vcap] 43)).alloc (.cells #[.int .i64 fr2, .int .i64 tt2, .slice ua ys.length ucap] 43)) = W at *
   refine (HQ.out _ HV.out HU.out).mono ?_
   rintro e w1 ⟨rfl, b1⟩
   have b2 := hb.trans (b1.mono hb.size)
   go_wp2
   go_ret
   exact ⟨rfl, b2⟩
  ·
   have HE : Hid (decide (((fr, tt, xs) : SpanD) = (fr2, tt2, ys)) = false) := Lib.hid (decide_eq_false (fun e => h2 (by injection e with _ e; injection e)))
   have e1 : (fr == fr2) = true := by simp [h1]
   have e2 : (tt == tt2) = false := by simp [h2]
   clear h1 h2 HQ
   go_enter Tryd.func67, Tryd.ntmps67
   go_wp2
   go_ret
   exact ⟨ret_b HE.out.symm, hb⟩
 ·
  have HE : Hid (decide (((fr, tt, xs) : SpanD) = (fr2, tt2, ys)) = false) := Lib.hid (decide_eq_false (fun e => h1 (by injection e)))
  have e1 : (fr == fr2) = false := by simp [h1]
  clear h1 HQ
  go_enter Tryd.func67, Tryd.ntmps67
  go_wp2
  go_ret
  exact ⟨ret_b HE.out.symm, hb⟩
set_option maxHeartbeats 8000000 in
set_option maxRecDepth 100000 in
theorem spansFunc_any (v u : Value) (rs ss : List SpanD) (w : World) (h : SpansR w v rs) (g : SpansR w u ss) (hs : zpL rs ≤ 1048576) (ht : zpL ss ≤ 1048576) :
  Calls Tryd.prog 66 #[v, u, .func (.func 67) #[] #[]] w fun e w' => e = .returned (.bool (decide (rs = ss))) ∧ Below w.heap.size w w' := by
 have H := Lib.hid h
 have G := Lib.hid g
 have HS := Lib.hid hs
 have HT := Lib.hid ht
 have hlen := zpL_len hs
 have hlen2 := zpL_len ht
 obtain ⟨a, cap, rfl⟩ := spansR_len h
 obtain ⟨a2, cap2, rfl⟩ := spansR_len g
 clear h g hs ht
 by_cases hl : rs.length = ss.length
 ·
  have HL := Lib.hid hl
  have hne : ((rs.length : Int) != (ss.length : Int)) = false := by rw [hl]; simp
  clear hl
  go_enter Tryd.func66, Tryd.ntmps66
  go_wp2
  clear hne
  go_loopw [17] (fun i wr => ∃ k : Nat, k ≤ rs.length ∧ i = .int .i64 k ∧ Hid (∀ j, j < k → rs.getD j p0D = ss.getD j p0D) ∧ Below w.heap.size w wr) (fun i _ => rs.length - (intOf i).toNat)
  case atStart => exact ⟨0, Nat.zero_le _, rfl, Lib.hid (fun j hj => by omega), Below.refl _ _⟩
  case round =>
   obtain ⟨k, hk, rfl, hall, hbel⟩ := hrel
   by_cases hlt : k < rs.length
   ·
    have hlt2 : k < ss.length := by have := HL.out; omega
    obtain ⟨b, off, cap', vv, hv, hbl, hc1, hc1b, hc2, hI⟩ := spansR_at (spansR_below H.out hbel) hlt
    simp only [Value.slice.injEq] at hv
    obtain ⟨rfl, _, rfl⟩ := hv
    obtain ⟨b2, off2, cap2', uv, hv2, hbl2, hd1, hd1b, hd2, hJ⟩ := spansR_at (spansR_below G.out hbel) hlt2
    simp only [Value.slice.injEq] at hv2
    obtain ⟨rfl, _, rfl⟩ := hv2
    have hxl := zpL_span HS.out hlt
    have hyl := zpL_span HT.out hlt2
    have i1 : (0 : Int) ≤ (k : Int) := by omega
    have i2 : (k : Int) < (rs.length : Int) := by omega
    have i3 : (k : Int) < (ss.length : Int) := by omega
    have HNE := Lib.hid (fun e => decide_eq_false (spans_ne_at (rs := rs) (ss := ss) (k := k) e))
    have HALL : Hid (rs.getD k p0D = ss.getD k p0D → ∀ j, j < k + 1 → rs.getD j p0D = ss.getD j p0D) := Lib.hid (fun he j hj => by
     by_cases e : j = k
     ·
      exact e ▸ he
     ·
      exact hall.out j (by omega))
    clear hall
    generalize rs.getD k p0D = r at *
    generalize ss.getD k p0D = q at *
    obtain ⟨fr, tt, xs⟩ := r
    obtain ⟨fr2, tt2, ys⟩ := q
    simp only at hc1 hc1b hc2 hd1 hd1b hd2 hI hJ hxl hyl
    obtain ⟨va, vcap, rfl⟩ := ints_len hI
    obtain ⟨ua, ucap, rfl⟩ := ints_len hJ
    have HSM := Lib.hid (fun w h g => equalSpan_any fr tt fr2 tt2 (.slice va xs.length vcap) (.slice ua ys.length ucap) xs ys w h g hxl hyl)
    have bb := ((Below.refl wr.heap.size wr).alloc (Nat.le_refl _) (.cells #[.int .i64 fr, .int .i64 tt, .slice va xs.length vcap] 43)).alloc (by simp) (.cells #[.int .i64 fr2, .int .i64 tt2, .slice ua ys.length ucap] 43)
    have hd1' := ((Below.refl wr.heap.size wr).alloc (Nat.le_refl _) (.cells #[.int .i64 fr, .int .i64 tt, .slice va xs.length vcap] 43)).cell (p := ⟨b2, off2 + k * 3, none⟩) hbl2
    have hd1b' := ((Below.refl wr.heap.size wr).alloc (Nat.le_refl _) (.cells #[.int .i64 fr, .int .i64 tt, .slice va xs.length vcap] 43)).cell (p := ⟨b2, off2 + k * 3 + 1, none⟩) hbl2
    have hd2' := ((Below.refl wr.heap.size wr).alloc (Nat.le_refl _) (.cells #[.int .i64 fr, .int .i64 tt, .slice va xs.length vcap] 43)).cell (p := ⟨b2, off2 + k * 3 + 2, none⟩) hbl2
    rw [hd1] at hd1'
    rw [hd1b] at hd1b'
    rw [hd2] at hd2'
    by_cases he : ((fr, tt, xs) : SpanD) = (fr2, tt2, ys)
    ·
     have HA := Lib.hid (HALL.out he)
     rw [decide_eq_true he] at HSM
     clear he HNE HALL
     go_wp2_with fail
     refine (HSM.out _ (ints_below hI bb) (ints_below hJ bb)).mono ?_
     rintro e w8 ⟨rfl, b9⟩
     have b11 := hbel.trans ((bb.trans (b9.mono bb.size)).mono hbel.size)
     clear b9 bb hd1' hd1b' hd2'
     go_wp2
     go_roundw
     case rel => exact ⟨k + 1, by omega, by go_num, HA, b11⟩
     case measure => simp [intOf]; omega
    ·
     have HF := Lib.hid (HNE.out he)
     rw [decide_eq_false he] at HSM
     clear he HNE HALL
     go_wp2_with fail
     refine (HSM.out _ (ints_below hI bb) (ints_below hJ bb)).mono ?_
     rintro e w8 ⟨rfl, b9⟩
     have b11 := hbel.trans ((bb.trans (b9.mono bb.size)).mono hbel.size)
     clear b9 bb hd1' hd1b' hd2'
     go_wp2
     go_ret
     exact ⟨ret_b HF.out.symm, b11⟩
   ·
    obtain rfl : k = rs.length := by omega
    have HE := Lib.hid (decide_eq_true (spans_eq_all HL.out hall.out))
    clear hall
    go_wp2
    go_ret
    exact ⟨ret_b HE.out.symm, hbel⟩
 ·
  have HF := Lib.hid (decide_eq_false (show ¬ rs = ss from fun e => hl (by rw [e])))
  have hne : ((rs.length : Int) != (ss.length : Int)) = true := by rw [bne_iff_ne]; omega
  clear hl
  go_enter Tryd.func66, Tryd.ntmps66
  go_wp2
  go_ret
  exact ⟨ret_b HF.out.symm, Below.refl _ _⟩
set_option maxHeartbeats 2000000 in
set_option maxRecDepth 100000 in
theorem implEqualSpans (v u : Value) (rs ss : List SpanD) (w : World) (h : SpansR w v rs) (g : SpansR w u ss) (hs : zpL rs ≤ 1048576) (ht : zpL ss ≤ 1048576) :
  Calls Tryd.prog 26 #[v, u] w fun e w' => e = .returned (.bool (decide (rs = ss))) ∧ Below w.heap.size w w' := by
 have H := Lib.hid (fun w h g => spansFunc_any v u rs ss w h g hs ht)
 have HV := Lib.hid h
 have HU := Lib.hid g
 clear h g hs ht
 generalize decide (rs = ss) = r at *
 go_enter Tryd.func26, Tryd.ntmps26
 go_wp2_with fail
 refine (H.out _ HV.out HU.out).mono ?_
 rintro e w1 ⟨rfl, b1⟩
 go_wp2
 go_ret
 exact ⟨rfl, b1⟩
theorem lists_ne_at {α : Type} {d : α} {xs ys : List α} {k : Nat} (h : ¬ xs.getD k d = ys.getD k d) : ¬ xs = ys := fun e => h (by rw [e])
theorem lists_eq_all {α : Type} {d : α} {xs ys : List α} (hl : xs.length = ys.length) (h : ∀ j, j < xs.length → xs.getD j d = ys.getD j d) : xs = ys := by
 apply List.ext_getElem hl
 intro i h1 h2
 have := h i h1
 simpa [List.getD, h1, h2] using this
set_option maxHeartbeats 8000000 in
set_option maxRecDepth 100000 in
theorem fieldsFunc_any (v u : Value) (fs gs : List (List SpanD)) (w : World) (h : SlR tSpanS w v fs) (g : SlR tSpanS w u gs) (hs : zL tSpanS fs ≤ 1048576) (ht : zL tSpanS gs ≤ 1048576) :
  Calls Tryd.prog 88 #[v, u, .func (.func 26) #[] #[]] w fun e w' => e = .returned (.bool (decide (fs = gs))) ∧ Below w.heap.size w w' := by
 have H := Lib.hid h
 have G := Lib.hid g
 have HS := Lib.hid hs
 have HT := Lib.hid ht
 have hlen := zL_len hs
 have hlen2 := zL_len ht
 obtain ⟨a, cap, rfl⟩ := slR_len h
 obtain ⟨a2, cap2, rfl⟩ := slR_len g
 clear h g hs ht
 by_cases hl : fs.length = gs.length
 ·
  have HL := Lib.hid hl
  have hne : ((fs.length : Int) != (gs.length : Int)) = false := by rw [hl]; simp
  clear hl
  go_enter Tryd.func88, Tryd.ntmps88
  go_wp2
  clear hne
  go_loopw [17] (fun i wr => ∃ k : Nat, k ≤ fs.length ∧ i = .int .i64 k ∧ Hid (∀ j, j < k → fs.getD j tSpanS.d = gs.getD j tSpanS.d) ∧ Below w.heap.size w wr) (fun i _ => fs.length - (intOf i).toNat)
  case atStart => exact ⟨0, Nat.zero_le _, rfl, Lib.hid (fun j hj => by omega), Below.refl _ _⟩
  case round =>
   obtain ⟨k, hk, rfl, hall, hbel⟩ := hrel
   by_cases hlt : k < fs.length
   ·
    have hlt2 : k < gs.length := by have := HL.out; omega
    obtain ⟨b, off, cap', cs, hv, hbl, hcs, hR⟩ := slR_at (slR_below tSpanS_law H.out hbel) hlt
    simp only [Value.slice.injEq] at hv
    obtain ⟨rfl, _, rfl⟩ := hv
    obtain ⟨b2, off2, cap2', ds, hv2, hbl2, hds, hQ⟩ := slR_at (slR_below tSpanS_law G.out hbel) hlt2
    simp only [Value.slice.injEq] at hv2
    obtain ⟨rfl, _, rfl⟩ := hv2
    have hxl : zL tSpan (fs.getD k tSpanS.d) ≤ 1048576 := zL_at HS.out hlt
    have hyl : zL tSpan (gs.getD k tSpanS.d) ≤ 1048576 := zL_at HT.out hlt2
    have i1 : (0 : Int) ≤ (k : Int) := by omega
    have i2 : (k : Int) < (fs.length : Int) := by omega
    have i3 : (k : Int) < (gs.length : Int) := by omega
    have HNE := Lib.hid (fun e => decide_eq_false (lists_ne_at (d := tSpanS.d) (xs := fs) (ys := gs) (k := k) e))
    have HALL : Hid (fs.getD k tSpanS.d = gs.getD k tSpanS.d → ∀ j, j < k + 1 → fs.getD j tSpanS.d = gs.getD j tSpanS.d) := Lib.hid (fun he j hj => by
     by_cases e : j = k
     ·
      exact e ▸ he
     ·
      exact hall.out j (by omega))
    clear hall
    generalize fs.getD k tSpanS.d = r at *
    generalize gs.getD k tSpanS.d = q at *
    obtain ⟨u1, rfl, hI⟩ := hR
    obtain ⟨u2, rfl, hJ⟩ := hQ
    have p0 : wr.cell? ⟨b, off + k, none⟩ = some u1 := by have := hcs 0 Nat.one_pos; rw [show tSpanS.n = 1 from rfl, Nat.mul_one, Nat.add_zero] at this; exact this
    have p1 : wr.cell? ⟨b2, off2 + k, none⟩ = some u2 := by have := hds 0 Nat.one_pos; rw [show tSpanS.n = 1 from rfl, Nat.mul_one, Nat.add_zero] at this; exact this
    clear hcs hds
    obtain ⟨ra, rc, rfl⟩ := slR_len hI
    obtain ⟨qa, qc, rfl⟩ := slR_len hJ
    rw [zL_spans] at hxl hyl
    have HSM := Lib.hid (fun w h g => implEqualSpans (.slice ra r.length rc) (.slice qa q.length qc) r q w h g hxl hyl)
    have I0 := Lib.hid (slR_spans hI); have J0 := Lib.hid (slR_spans hJ)
    clear hI hJ hxl hyl
    by_cases he : r = q
    ·
     have HA := Lib.hid (HALL.out he)
     rw [decide_eq_true he] at HSM
     clear he HNE HALL
     go_wp2_with fail
     refine (HSM.out _ I0.out J0.out).mono ?_
     rintro e w8 ⟨rfl, b9⟩
     have b11 := hbel.trans (b9.mono hbel.size)
     clear b9
     go_wp2
     go_roundw
     case rel => exact ⟨k + 1, by omega, by go_num, HA, b11⟩
     case measure => simp [intOf]; omega
    ·
     have HF := Lib.hid (HNE.out he)
     rw [decide_eq_false he] at HSM
     clear he HNE HALL
     go_wp2_with fail
     refine (HSM.out _ I0.out J0.out).mono ?_
     rintro e w8 ⟨rfl, b9⟩
     have b11 := hbel.trans (b9.mono hbel.size)
     clear b9
     go_wp2
     go_ret
     exact ⟨ret_b HF.out.symm, b11⟩
   ·
    obtain rfl : k = fs.length := by omega
    have HE := Lib.hid (decide_eq_true (lists_eq_all (d := tSpanS.d) HL.out hall.out))
    clear hall
    go_wp2
    go_ret
    exact ⟨ret_b HE.out.symm, hbel⟩
 ·
  have HF := Lib.hid (decide_eq_false (show ¬ fs = gs from fun e => hl (by rw [e])))
  have hne : ((fs.length : Int) != (gs.length : Int)) = true := by rw [bne_iff_ne]; omega
  clear hl
  go_enter Tryd.func88, Tryd.ntmps88
  go_wp2
  go_ret
  exact ⟨ret_b HF.out.symm, Below.refl _ _⟩
theorem fld_zL (qs : List QD) : zL tSpanS (fldTo qs 3) ≤ 1048576 := by
 have h : zL tSpanS (fldTo qs 3) ≤ (fldTo qs 3).length * (1 + 2500) := by
  apply zL_le
  intro l hlm
  obtain ⟨f, _, rfl⟩ := List.mem_map.1 hlm
  show zL tSpan _ ≤ _
  rw [zL_spans]
  exact spansL_size qs (f : Int)
 rw [fldTo_len] at h
 omega
theorem isIdx_isnt {qs : List QD} {fs : List (List SpanD)} (h : areQB qs = false) : isIndexB qs fs = false := by unfold isIndexB; rw [h]; rfl
theorem isIdx_is {qs : List QD} {fs : List (List SpanD)} (h : areQB qs = true) : isIndexB qs fs = decide (fs = fldTo qs 3) := by unfold isIndexB; rw [h, Bool.true_and]
set_option maxHeartbeats 16000000 in
set_option maxRecDepth 100000 in
theorem implIsIndex (qv fv : Value) (qs : List QD) (fs : List (List SpanD)) (w : World) (h1 : SlR tQuery w qv qs) (h2 : SlR tSpanS w fv fs) (hs : zL tQuery qs ≤ 1048576) (hz : zL tSpanS fs ≤ 1048576) :
  Calls Tryd.prog 37 #[.agg #[qv, fv]] w fun e w' => e = .returned (.bool (isIndexB qs fs)) ∧ Below w.heap.size w w' := by
 have HSQ : Hid (szQL qs ≤ 1048576) := Lib.hid (by rw [← zL_queries]; exact hs)
 have HZF := Lib.hid hz
 have hlen := zL_len hs
 have hlen2 := zL_len hz
 obtain ⟨qa, qc, rfl⟩ := slR_len h1
 obtain ⟨fa, fc, rfl⟩ := slR_len h2
 have d := Lib.hid ((Below.refl w.heap.size w).alloc (Nat.le_refl _) (.cells #[.slice qa qs.length qc, .slice fa fs.length fc] 49))
 have B0 : Hid ((w.alloc (.cells #[.slice qa qs.length qc, .slice fa fs.length fc] 49)).heap[w.heap.size]? = some (.cells #[.slice qa qs.length qc, .slice fa fs.length fc] 49 (0, 0))) := Lib.hid (heap_alloc_new w _)
 have H1 := Lib.hid h1
 have H2 := Lib.hid h2
 have HA := Lib.hid (fun w h => implAreQueries (.slice qa qs.length qc) qs w h HSQ.out)
 clear h1 h2 hs hz
 cases hq : areQB qs with
 | false =>
  have HE := Lib.hid (isIdx_isnt (fs := fs) hq)
  rw [hq] at HA
  clear hq
  go_enter Tryd.func37, Tryd.ntmps37
  go_wp2
  generalize w.alloc (.cells #[.slice qa qs.length qc, .slice fa fs.length fc] 49) = W at *
  have p_B0_0 := (cell_of_row W _ 0 _ _ _ B0.out).trans (show _ = some (Value.slice qa qs.length qc) from rfl)
  have p_B0_1 := (cell_of_row W _ 1 _ _ _ B0.out).trans (show _ = some (Value.slice fa fs.length fc) from rfl)
  refine wp_region_held_drew (S := fun w' => w'.cell? ⟨w.heap.size, 0, none⟩ = some (Value.slice qa qs.length qc) ∧ w'.cell? ⟨w.heap.size, 1, none⟩ = some (Value.slice fa fs.length fc)) (by kernel_rfl) ⟨p_B0_0, p_B0_1⟩ (fun hHeld => ?_)
  clear p_B0_0 p_B0_1
  have cdr : Below W.heap.size W W.drew := below_drew (Below.refl _ _)
  replace B0 := Lib.hid ((cdr.block w.heap.size (Array.getElem?_eq_some_iff.1 B0.out).1).trans B0.out)
  replace d := Lib.hid (d.out.trans (cdr.mono d.out.size))
  clear cdr
  refine tR (i := 0) (v := ?_) ?_ ?_; rotate_left
  ·
   intro w hSw; (try dsimp only at hSw); go_simp; try (with_reducible rfl)
  try simp only [Act.put, lA, lB, lC]
  refine tR (i := 1) (v := ?_) ?_ ?_; rotate_left
  ·
   intro w hSw; (try dsimp only at hSw); go_simp; try (with_reducible rfl)
  try simp only [Act.put, lA, lB, lC]
  refine wpAnyH_ready (rs := [2]) (by kernel_rfl) (by simp) ?_
  refine (AllReadyH.cons (o := _) (by simp only [hA, hB, hC]; rfl) (fun K hK => ?_) AllReadyH.nil)
  go_simp
  refine (HA.out (W.drew) (slR_queries (slR_below tQuery_law H1.out d.out))).mono ?_
  rintro e w4 ⟨rfl, c4⟩
  replace B0 := Lib.hid ((c4.block w.heap.size (Array.getElem?_eq_some_iff.1 B0.out).1).trans B0.out)
  replace d := Lib.hid (d.out.trans (c4.mono d.out.size))
  have Z_w4 := Lib.hid (show W.heap.size ≤ w4.heap.size from c4.size)
  clear c4
  have p_B0_0 := (cell_of_row w4 _ 0 _ _ _ B0.out).trans (show _ = some (Value.slice qa qs.length qc) from rfl)
  have p_B0_1 := (cell_of_row w4 _ 1 _ _ _ B0.out).trans (show _ = some (Value.slice fa fs.length fc) from rfl)
  refine hK.out _ _ ⟨p_B0_0, p_B0_1⟩ (fun hHeld => ?_)
  clear p_B0_0 p_B0_1
  clear hK K
  try simp only [Act.put, lA, lB, lC]
  refine tR (i := 3) (v := ?_) ?_ ?_; rotate_left
  ·
   intro w hSw; (try dsimp only at hSw); go_simp; try (with_reducible rfl)
  try simp only [Act.put, lA, lB, lC]
  refine tO (i := 4) ?_
  try simp only [Act.put, lA, lB, lC]
  refine tO (i := 5) ?_
  try simp only [Act.put, lA, lB, lC]
  refine tO (i := 6) ?_
  try simp only [Act.put, lA, lB, lC]
  refine tO (i := 7) ?_
  try simp only [Act.put, lA, lB, lC]
  refine tO (i := 8) ?_
  try simp only [Act.put, lA, lB, lC]
  refine tO (i := 9) ?_
  try simp only [Act.put, lA, lB, lC]
  refine tR (i := 10) (v := ?_) ?_ ?_; rotate_left
  ·
   intro w hSw; (try dsimp only at hSw); go_simp; try (with_reducible rfl)
  try simp only [Act.put, lA, lB, lC]
  refine tR (i := 11) (v := ?_) ?_ ?_; rotate_left
  ·
   intro w hSw; (try dsimp only at hSw); go_simp; try (with_reducible rfl)
  try simp only [Act.put, lA, lB, lC]
  refine wpAnyH_done (by kernel_rfl) ?_ _
  clear hHeld
  go_wp2
  go_ret
  exact ⟨ret_b HE.out.symm, d.out⟩
 | true =>
  have HE := Lib.hid (isIdx_is (fs := fs) hq)
  rw [hq] at HA
  clear hq
  go_enter Tryd.func37, Tryd.ntmps37
  go_wp2
  generalize w.alloc (.cells #[.slice qa qs.length qc, .slice fa fs.length fc] 49) = W at *
  have p_B0_0 := (cell_of_row W _ 0 _ _ _ B0.out).trans (show _ = some (Value.slice qa qs.length qc) from rfl)
  have p_B0_1 := (cell_of_row W _ 1 _ _ _ B0.out).trans (show _ = some (Value.slice fa fs.length fc) from rfl)
  refine wp_region_held_drew (S := fun w' => w'.cell? ⟨w.heap.size, 0, none⟩ = some (Value.slice qa qs.length qc) ∧ w'.cell? ⟨w.heap.size, 1, none⟩ = some (Value.slice fa fs.length fc)) (by kernel_rfl) ⟨p_B0_0, p_B0_1⟩ (fun hHeld => ?_)
  clear p_B0_0 p_B0_1
  have cdr : Below W.heap.size W W.drew := below_drew (Below.refl _ _)
  replace B0 := Lib.hid ((cdr.block w.heap.size (Array.getElem?_eq_some_iff.1 B0.out).1).trans B0.out)
  replace d := Lib.hid (d.out.trans (cdr.mono d.out.size))
  clear cdr
  refine tR (i := 0) (v := ?_) ?_ ?_; rotate_left
  ·
   intro w hSw; (try dsimp only at hSw); go_simp; try (with_reducible rfl)
  try simp only [Act.put, lA, lB, lC]
  refine tR (i := 1) (v := ?_) ?_ ?_; rotate_left
  ·
   intro w hSw; (try dsimp only at hSw); go_simp; try (with_reducible rfl)
  try simp only [Act.put, lA, lB, lC]
  refine wpAnyH_ready (rs := [2]) (by kernel_rfl) (by simp) ?_
  refine (AllReadyH.cons (o := _) (by simp only [hA, hB, hC]; rfl) (fun K hK => ?_) AllReadyH.nil)
  go_simp
  refine (HA.out (W.drew) (slR_queries (slR_below tQuery_law H1.out d.out))).mono ?_
  rintro e w4 ⟨rfl, c4⟩
  replace B0 := Lib.hid ((c4.block w.heap.size (Array.getElem?_eq_some_iff.1 B0.out).1).trans B0.out)
  replace d := Lib.hid (d.out.trans (c4.mono d.out.size))
  have Z_w4 := Lib.hid (show W.heap.size ≤ w4.heap.size from c4.size)
  clear c4
  have p_B0_0 := (cell_of_row w4 _ 0 _ _ _ B0.out).trans (show _ = some (Value.slice qa qs.length qc) from rfl)
  have p_B0_1 := (cell_of_row w4 _ 1 _ _ _ B0.out).trans (show _ = some (Value.slice fa fs.length fc) from rfl)
  refine hK.out _ _ ⟨p_B0_0, p_B0_1⟩ (fun hHeld => ?_)
  clear p_B0_0 p_B0_1
  clear hK K
  try simp only [Act.put, lA, lB, lC]
  refine tR (i := 3) (v := ?_) ?_ ?_; rotate_left
  ·
   intro w hSw; (try dsimp only at hSw); go_simp; try (with_reducible rfl)
  try simp only [Act.put, lA, lB, lC]
  refine tR (i := 4) (v := ?_) ?_ ?_; rotate_left
  ·
   intro w hSw; (try dsimp only at hSw); go_simp; try (with_reducible rfl)
  try simp only [Act.put, lA, lB, lC]
  refine tR (i := 5) (v := ?_) ?_ ?_; rotate_left
  ·
   intro w hSw; (try dsimp only at hSw); go_simp; try (with_reducible rfl)
  try simp only [Act.put, lA, lB, lC]
  refine tR (i := 6) (v := ?_) ?_ ?_; rotate_left
  ·
   intro w hSw; (try dsimp only at hSw); go_simp; try (with_reducible rfl)
  try simp only [Act.put, lA, lB, lC]
  refine tR (i := 7) (v := ?_) ?_ ?_; rotate_left
  ·
   intro w hSw; (try dsimp only at hSw); go_simp; try (with_reducible rfl)
  try simp only [Act.put, lA, lB, lC]
  refine wpAnyH_ready (rs := [8]) (by kernel_rfl) (by simp) ?_
  refine (AllReadyH.cons (o := _) (by simp only [hA, hB, hC]; rfl) (fun K hK => ?_) AllReadyH.nil)
  go_simp
  refine (implStabIndexes (.slice qa qs.length qc) qs w4 (slR_queries (slR_below tQuery_law H1.out d.out)) HSQ.out).mono ?_
  rintro e w5 ⟨su, rfl, os, c5⟩
  replace B0 := Lib.hid ((c5.block w.heap.size (Array.getElem?_eq_some_iff.1 B0.out).1).trans B0.out)
  replace d := Lib.hid (d.out.trans (c5.mono d.out.size))
  have Z_w5 := Lib.hid (show w4.heap.size ≤ w5.heap.size from c5.size)
  clear c5
  have S5 := Lib.hid (slO_reads tSpanS_law os)
  clear os
  have p_B0_0 := (cell_of_row w5 _ 0 _ _ _ B0.out).trans (show _ = some (Value.slice qa qs.length qc) from rfl)
  have p_B0_1 := (cell_of_row w5 _ 1 _ _ _ B0.out).trans (show _ = some (Value.slice fa fs.length fc) from rfl)
  refine hK.out _ _ ⟨p_B0_0, p_B0_1⟩ (fun hHeld => ?_)
  clear p_B0_0 p_B0_1
  clear hK K
  try simp only [Act.put, lA, lB, lC]
  refine wpAnyH_ready (rs := [9]) (by kernel_rfl) (by simp) ?_
  refine (AllReadyH.cons (o := _) (by simp only [hA, hB, hC]; rfl) (fun K hK => ?_) AllReadyH.nil)
  go_simp
  refine (fieldsFunc_any (.slice fa fs.length fc) su fs (fldTo qs 3) w5 (slR_below tSpanS_law H2.out d.out) S5.out HZF.out (fld_zL qs)).mono ?_
  rintro e w6 ⟨rfl, c6⟩
  replace B0 := Lib.hid ((c6.block w.heap.size (Array.getElem?_eq_some_iff.1 B0.out).1).trans B0.out)
  replace d := Lib.hid (d.out.trans (c6.mono d.out.size))
  have Z_w6 := Lib.hid (show w5.heap.size ≤ w6.heap.size from c6.size)
  clear c6 S5
  generalize decide (fs = fldTo qs 3) = rr at *
  have p_B0_0 := (cell_of_row w6 _ 0 _ _ _ B0.out).trans (show _ = some (Value.slice qa qs.length qc) from rfl)
  have p_B0_1 := (cell_of_row w6 _ 1 _ _ _ B0.out).trans (show _ = some (Value.slice fa fs.length fc) from rfl)
  refine hK.out _ _ ⟨p_B0_0, p_B0_1⟩ (fun hHeld => ?_)
  clear p_B0_0 p_B0_1
  clear hK K
  try simp only [Act.put, lA, lB, lC]
  refine tR (i := 10) (v := ?_) ?_ ?_; rotate_left
  ·
   intro w hSw; (try dsimp only at hSw); go_simp; try (with_reducible rfl)
  try simp only [Act.put, lA, lB, lC]
  refine tR (i := 11) (v := ?_) ?_ ?_; rotate_left
  ·
   intro w hSw; (try dsimp only at hSw); go_simp; try (with_reducible rfl)
  try simp only [Act.put, lA, lB, lC]
  refine wpAnyH_done (by kernel_rfl) ?_ _
  clear hHeld
  go_wp2
  go_ret
  exact ⟨ret_b HE.out.symm, d.out⟩
end Go.Proofs.YtededfficggkaaaDoor
