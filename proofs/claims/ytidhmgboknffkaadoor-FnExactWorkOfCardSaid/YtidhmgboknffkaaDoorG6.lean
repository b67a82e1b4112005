/-
  Texts of the proof, merged: SpanEqP, FieldsEqP, TIndex, IdxSize, IsIndexP, MaskMath, MaskWalks, CountMath, SpansMath, MatchSpec, IdxMath2, ProbeMath, CheckP, OrdP, MaskCount.
-/
import Derived.Test.YtidhmgboknffkaaDoorG5
import Derived.Test.YtidhmgboknffkaaDoorRows
import Derived.BigQuiet
import Derived.Deep.QuietTactic
import Derived.Deep.RegionHeld3
import Derived.Laws.BitsLemmas
import Derived.Lib.BitFns
import Derived.Laws.CopyOwn
import Derived.Lib.Tables
namespace Go.Proofs.YtidhmgboknffkaaDoor
open Go.RowKit
set_option linter.unusedVariables false
set_option linter.unusedSimpArgs false
theorem span_eq3 {fr tt fr2 tt2 : Int} {xs ys : List Int} (h1 : fr = fr2) (h2 : tt = tt2) : decide (((fr, tt, xs) : SpanD) = (fr2, tt2, ys)) = decide (xs = ys) := by subst h1; subst h2; simp
set_option maxHeartbeats 8000000 in
set_option maxRecDepth 100000 in
theorem equalSpan_any (fr tt fr2 tt2 : Int) (v u : Value) (xs ys : List Int) (w : World) (h : Ints w v xs) (g : Ints w u ys) (hn : xs.length ≤ 1048576) (hm : ys.length ≤ 1048576) :
    Calls Tryd.prog 91 #[.agg #[.int .i64 fr, .int .i64 tt, v], .agg #[.int .i64 fr2, .int .i64 tt2, u]] w fun e w' => e = .returned (.bool (decide (((fr, tt, xs) : SpanD) = (fr2, tt2, ys)))) ∧ Below w.heap.size w w' := by
  obtain ⟨va, vcap, rfl⟩ := ints_len h
  obtain ⟨ua, ucap, rfl⟩ := ints_len g
  have hb : Below w.heap.size w ((w.alloc (.cells #[.int .i64 fr, .int .i64 tt, .slice va xs.length vcap] 83)).alloc (.cells #[.int .i64 fr2, .int .i64 tt2, .slice ua ys.length ucap] 83)) := ((Below.refl _ w).alloc (Nat.le_refl _) _).alloc (by simp) _
  have HQ := Lib.hid (fun w h g => equalInts_any (.slice va xs.length vcap) (.slice ua ys.length ucap) xs ys w h g hn hm)
  have HV := Lib.hid (ints_below h hb)
  have HU := Lib.hid (ints_below g hb)
  clear h g hn hm
  by_cases h1 : fr = fr2
  · by_cases h2 : tt = tt2
    · have HE := Lib.hid (span_eq3 (xs := xs) (ys := ys) h1 h2)
      have e1 : (fr == fr2) = true := by simp [h1]
      have e2 : (tt == tt2) = true := by simp [h2]
      rw [HE.out]
      generalize decide (xs = ys) = r at *
      clear h1 h2 HE
      go_enter Tryd.func91, Tryd.ntmps91
      go_wp2_with fail
      generalize ((w.alloc (.cells #[.int .i64 fr, .int .i64 tt, .slice va xs.length vcap] 83)).alloc (.cells #[.int .i64 fr2, .int .i64 tt2, .slice ua ys.length ucap] 83)) = W at *
      refine (HQ.out _ HV.out HU.out).mono ?_
      rintro e w1 ⟨rfl, b1⟩
      have b2 := hb.trans (b1.mono hb.size)
      go_wp2
      go_ret
      exact ⟨rfl, b2⟩
    · have HE : Hid (decide (((fr, tt, xs) : SpanD) = (fr2, tt2, ys)) = false) := Lib.hid (decide_eq_false (fun e => h2 (by injection e with _ e; injection e)))
      have e1 : (fr == fr2) = true := by simp [h1]
      have e2 : (tt == tt2) = false := by simp [h2]
      clear h1 h2 HQ
      go_enter Tryd.func91, Tryd.ntmps91
      go_wp2
      go_ret
      exact ⟨ret_b HE.out.symm, hb⟩
  · have HE : Hid (decide (((fr, tt, xs) : SpanD) = (fr2, tt2, ys)) = false) := Lib.hid (decide_eq_false (fun e => h1 (by injection e)))
    have e1 : (fr == fr2) = false := by simp [h1]
    clear h1 HQ
    go_enter Tryd.func91, Tryd.ntmps91
    go_wp2
    go_ret
    exact ⟨ret_b HE.out.symm, hb⟩
set_option maxHeartbeats 8000000 in
set_option maxRecDepth 100000 in
theorem spansFunc_any (v u : Value) (rs ss : List SpanD) (w : World) (h : SpansR w v rs) (g : SpansR w u ss) (hs : zpL rs ≤ 1048576) (ht : zpL ss ≤ 1048576) :
    Calls Tryd.prog 90 #[v, u, .func (.func 91) #[] #[]] w fun e w' => e = .returned (.bool (decide (rs = ss))) ∧ Below w.heap.size w w' := by
  have H := Lib.hid h
  have G := Lib.hid g
  have HS := Lib.hid hs
  have HT := Lib.hid ht
  have hlen := zpL_len hs
  have hlen2 := zpL_len ht
  obtain ⟨a, cap, rfl⟩ := spansR_len h
  obtain ⟨a2, cap2, rfl⟩ := spansR_len g
  clear h g hs ht
  by_cases hl : rs.length = ss.length
  · have HL := Lib.hid hl
    have hne : ((rs.length : Int) != (ss.length : Int)) = false := by rw [hl]; simp
    clear hl
    go_enter Tryd.func90, Tryd.ntmps90
    go_wp2
    clear hne
    go_loopw [17] (fun i wr => ∃ k : Nat, k ≤ rs.length ∧ i = .int .i64 k ∧ Hid (∀ j, j < k → rs.getD j p0D = ss.getD j p0D) ∧ Below w.heap.size w wr) (fun i _ => rs.length - (intOf i).toNat)
    case atStart => exact ⟨0, Nat.zero_le _, rfl, Lib.hid (fun j hj => by omega), Below.refl _ _⟩
    case round =>
      obtain ⟨k, hk, rfl, hall, hbel⟩ := hrel
      by_cases hlt : k < rs.length
      · have hlt2 : k < ss.length := by have := HL.out; omega
        obtain ⟨b, off, cap', vv, hv, hbl, hc1, hc1b, hc2, hI⟩ := spansR_at (spansR_below H.out hbel) hlt
        simp only [Value.slice.injEq] at hv
        obtain ⟨rfl, _, rfl⟩ := hv
        obtain ⟨b2, off2, cap2', uv, hv2, hbl2, hd1, hd1b, hd2, hJ⟩ := spansR_at (spansR_below G.out hbel) hlt2
        simp only [Value.slice.injEq] at hv2
        obtain ⟨rfl, _, rfl⟩ := hv2
        have hxl := zpL_span HS.out hlt
        have hyl := zpL_span HT.out hlt2
        have i1 : (0 : Int) ≤ (k : Int) := by omega
        have i2 : (k : Int) < (rs.length : Int) := by omega
        have i3 : (k : Int) < (ss.length : Int) := by omega
        have HNE := Lib.hid (fun e => decide_eq_false (spans_ne_at (rs := rs) (ss := ss) (k := k) e))
        have HALL : Hid (rs.getD k p0D = ss.getD k p0D → ∀ j, j < k + 1 → rs.getD j p0D = ss.getD j p0D) := Lib.hid (fun he j hj => by
          by_cases e : j = k
          · exact e ▸ he
          · exact hall.out j (by omega))
        clear hall
        generalize rs.getD k p0D = r at *
        generalize ss.getD k p0D = q at *
        obtain ⟨fr, tt, xs⟩ := r
        obtain ⟨fr2, tt2, ys⟩ := q
        simp only at hc1 hc1b hc2 hd1 hd1b hd2 hI hJ hxl hyl
        obtain ⟨va, vcap, rfl⟩ := ints_len hI
        obtain ⟨ua, ucap, rfl⟩ := ints_len hJ
        have HSM := Lib.hid (fun w h g => equalSpan_any fr tt fr2 tt2 (.slice va xs.length vcap) (.slice ua ys.length ucap) xs ys w h g hxl hyl)
        have bb := ((Below.refl wr.heap.size wr).alloc (Nat.le_refl _) (.cells #[.int .i64 fr, .int .i64 tt, .slice va xs.length vcap] 83)).alloc (by simp) (.cells #[.int .i64 fr2, .int .i64 tt2, .slice ua ys.length ucap] 83)
        have hd1' := ((Below.refl wr.heap.size wr).alloc (Nat.le_refl _) (.cells #[.int .i64 fr, .int .i64 tt, .slice va xs.length vcap] 83)).cell (p := ⟨b2, off2 + k * 3, none⟩) hbl2
        have hd1b' := ((Below.refl wr.heap.size wr).alloc (Nat.le_refl _) (.cells #[.int .i64 fr, .int .i64 tt, .slice va xs.length vcap] 83)).cell (p := ⟨b2, off2 + k * 3 + 1, none⟩) hbl2
        have hd2' := ((Below.refl wr.heap.size wr).alloc (Nat.le_refl _) (.cells #[.int .i64 fr, .int .i64 tt, .slice va xs.length vcap] 83)).cell (p := ⟨b2, off2 + k * 3 + 2, none⟩) hbl2
        rw [hd1] at hd1'
        rw [hd1b] at hd1b'
        rw [hd2] at hd2'
        by_cases he : ((fr, tt, xs) : SpanD) = (fr2, tt2, ys)
        · have HA := Lib.hid (HALL.out he)
          rw [decide_eq_true he] at HSM
          clear he HNE HALL
          go_wp2_with fail
          refine (HSM.out _ (ints_below hI bb) (ints_below hJ bb)).mono ?_
          rintro e w8 ⟨rfl, b9⟩
          have b11 := hbel.trans ((bb.trans (b9.mono bb.size)).mono hbel.size)
          clear b9 bb hd1' hd1b' hd2'
          go_wp2
          go_roundw
          case rel => exact ⟨k + 1, by omega, by go_num, HA, b11⟩
          case measure => simp [intOf]; omega
        · have HF := Lib.hid (HNE.out he)
          rw [decide_eq_false he] at HSM
          clear he HNE HALL
          go_wp2_with fail
          refine (HSM.out _ (ints_below hI bb) (ints_below hJ bb)).mono ?_
          rintro e w8 ⟨rfl, b9⟩
          have b11 := hbel.trans ((bb.trans (b9.mono bb.size)).mono hbel.size)
          clear b9 bb hd1' hd1b' hd2'
          go_wp2
          go_ret
          exact ⟨ret_b HF.out.symm, b11⟩
      · obtain rfl : k = rs.length := by omega
        have HE := Lib.hid (decide_eq_true (spans_eq_all HL.out hall.out))
        clear hall
        go_wp2
        go_ret
        exact ⟨ret_b HE.out.symm, hbel⟩
  · have HF := Lib.hid (decide_eq_false (show ¬ rs = ss from fun e => hl (by rw [e])))
    have hne : ((rs.length : Int) != (ss.length : Int)) = true := by rw [bne_iff_ne]; omega
    clear hl
    go_enter Tryd.func90, Tryd.ntmps90
    go_wp2
    go_ret
    exact ⟨ret_b HF.out.symm, Below.refl _ _⟩
set_option maxHeartbeats 2000000 in
set_option maxRecDepth 100000 in
theorem implEqualSpans (v u : Value) (rs ss : List SpanD) (w : World) (h : SpansR w v rs) (g : SpansR w u ss) (hs : zpL rs ≤ 1048576) (ht : zpL ss ≤ 1048576) :
    Calls Tryd.prog 46 #[v, u] w fun e w' => e = .returned (.bool (decide (rs = ss))) ∧ Below w.heap.size w w' := by
  have H := Lib.hid (fun w h g => spansFunc_any v u rs ss w h g hs ht)
  have HV := Lib.hid h
  have HU := Lib.hid g
  clear h g hs ht
  generalize decide (rs = ss) = r at *
  go_enter Tryd.func46, Tryd.ntmps46
  go_wp2_with fail
  refine (H.out _ HV.out HU.out).mono ?_
  rintro e w1 ⟨rfl, b1⟩
  go_wp2
  go_ret
  exact ⟨rfl, b1⟩
end Go.Proofs.YtidhmgboknffkaaDoor
namespace Go.Proofs.YtidhmgboknffkaaDoor
open Go.RowKit
set_option linter.unusedVariables false
set_option linter.unusedSimpArgs false
theorem lists_ne_at {α : Type} {d : α} {xs ys : List α} {k : Nat} (h : ¬ xs.getD k d = ys.getD k d) : ¬ xs = ys := fun e => h (by rw [e])
theorem lists_eq_all {α : Type} {d : α} {xs ys : List α} (hl : xs.length = ys.length) (h : ∀ j, j < xs.length → xs.getD j d = ys.getD j d) : xs = ys := by
  apply List.ext_getElem hl
  intro i h1 h2
  have := h i h1
  simpa [List.getD, h1, h2] using this
set_option maxHeartbeats 8000000 in
set_option maxRecDepth 100000 in
theorem fieldsFunc_any (v u : Value) (fs gs : List (List SpanD)) (w : World) (h : SlR tSpanS w v fs) (g : SlR tSpanS w u gs) (hs : zL tSpanS fs ≤ 1048576) (ht : zL tSpanS gs ≤ 1048576) :
    Calls Tryd.prog 67 #[v, u, .func (.func 46) #[] #[]] w fun e w' => e = .returned (.bool (decide (fs = gs))) ∧ Below w.heap.size w w' := by
  have H := Lib.hid h
  have G := Lib.hid g
  have HS := Lib.hid hs
  have HT := Lib.hid ht
  have hlen := zL_len hs
  have hlen2 := zL_len ht
  obtain ⟨a, cap, rfl⟩ := slR_len h
  obtain ⟨a2, cap2, rfl⟩ := slR_len g
  clear h g hs ht
  by_cases hl : fs.length = gs.length
  · have HL := Lib.hid hl
    have hne : ((fs.length : Int) != (gs.length : Int)) = false := by rw [hl]; simp
    clear hl
    go_enter Tryd.func67, Tryd.ntmps67
    go_wp2
    clear hne
    go_loopw [17] (fun i wr => ∃ k : Nat, k ≤ fs.length ∧ i = .int .i64 k ∧ Hid (∀ j, j < k → fs.getD j tSpanS.d = gs.getD j tSpanS.d) ∧ Below w.heap.size w wr) (fun i _ => fs.length - (intOf i).toNat)
    case atStart => exact ⟨0, Nat.zero_le _, rfl, Lib.hid (fun j hj => by omega), Below.refl _ _⟩
    case round =>
      obtain ⟨k, hk, rfl, hall, hbel⟩ := hrel
      by_cases hlt : k < fs.length
      · have hlt2 : k < gs.length := by have := HL.out; omega
        obtain ⟨b, off, cap', cs, hv, hbl, hcs, hR⟩ := slR_at (slR_below tSpanS_law H.out hbel) hlt
        simp only [Value.slice.injEq] at hv
        obtain ⟨rfl, _, rfl⟩ := hv
        obtain ⟨b2, off2, cap2', ds, hv2, hbl2, hds, hQ⟩ := slR_at (slR_below tSpanS_law G.out hbel) hlt2
        simp only [Value.slice.injEq] at hv2
        obtain ⟨rfl, _, rfl⟩ := hv2
        have hxl : zL tSpan (fs.getD k tSpanS.d) ≤ 1048576 := zL_at HS.out hlt
        have hyl : zL tSpan (gs.getD k tSpanS.d) ≤ 1048576 := zL_at HT.out hlt2
        have i1 : (0 : Int) ≤ (k : Int) := by omega
        have i2 : (k : Int) < (fs.length : Int) := by omega
        have i3 : (k : Int) < (gs.length : Int) := by omega
        have HNE := Lib.hid (fun e => decide_eq_false (lists_ne_at (d := tSpanS.d) (xs := fs) (ys := gs) (k := k) e))
        have HALL : Hid (fs.getD k tSpanS.d = gs.getD k tSpanS.d → ∀ j, j < k + 1 → fs.getD j tSpanS.d = gs.getD j tSpanS.d) := Lib.hid (fun he j hj => by
          by_cases e : j = k
          · exact e ▸ he
          · exact hall.out j (by omega))
        clear hall
        generalize fs.getD k tSpanS.d = r at *
        generalize gs.getD k tSpanS.d = q at *
        obtain ⟨u1, rfl, hI⟩ := hR
        obtain ⟨u2, rfl, hJ⟩ := hQ
        have p0 : wr.cell? ⟨b, off + k, none⟩ = some u1 := by have := hcs 0 Nat.one_pos; rw [show tSpanS.n = 1 from rfl, Nat.mul_one, Nat.add_zero] at this; exact this
        have p1 : wr.cell? ⟨b2, off2 + k, none⟩ = some u2 := by have := hds 0 Nat.one_pos; rw [show tSpanS.n = 1 from rfl, Nat.mul_one, Nat.add_zero] at this; exact this
        clear hcs hds
        obtain ⟨ra, rc, rfl⟩ := slR_len hI
        obtain ⟨qa, qc, rfl⟩ := slR_len hJ
        rw [zL_spans] at hxl hyl
        have HSM := Lib.hid (fun w h g => implEqualSpans (.slice ra r.length rc) (.slice qa q.length qc) r q w h g hxl hyl)
        have I0 := Lib.hid (slR_spans hI); have J0 := Lib.hid (slR_spans hJ)
        clear hI hJ hxl hyl
        by_cases he : r = q
        · have HA := Lib.hid (HALL.out he)
          rw [decide_eq_true he] at HSM
          clear he HNE HALL
          go_wp2_with fail
          refine (HSM.out _ I0.out J0.out).mono ?_
          rintro e w8 ⟨rfl, b9⟩
          have b11 := hbel.trans (b9.mono hbel.size)
          clear b9
          go_wp2
          go_roundw
          case rel => exact ⟨k + 1, by omega, by go_num, HA, b11⟩
          case measure => simp [intOf]; omega
        · have HF := Lib.hid (HNE.out he)
          rw [decide_eq_false he] at HSM
          clear he HNE HALL
          go_wp2_with fail
          refine (HSM.out _ I0.out J0.out).mono ?_
          rintro e w8 ⟨rfl, b9⟩
          have b11 := hbel.trans (b9.mono hbel.size)
          clear b9
          go_wp2
          go_ret
          exact ⟨ret_b HF.out.symm, b11⟩
      · obtain rfl : k = fs.length := by omega
        have HE := Lib.hid (decide_eq_true (lists_eq_all (d := tSpanS.d) HL.out hall.out))
        clear hall
        go_wp2
        go_ret
        exact ⟨ret_b HE.out.symm, hbel⟩
  · have HF := Lib.hid (decide_eq_false (show ¬ fs = gs from fun e => hl (by rw [e])))
    have hne : ((fs.length : Int) != (gs.length : Int)) = true := by rw [bne_iff_ne]; omega
    clear hl
    go_enter Tryd.func67, Tryd.ntmps67
    go_wp2
    go_ret
    exact ⟨ret_b HF.out.symm, Below.refl _ _⟩
end Go.Proofs.YtidhmgboknffkaaDoor
namespace Go.Proofs.YtidhmgboknffkaaDoor
open Go.RowKit
set_option linter.unusedVariables false
set_option linter.unusedSimpArgs false
def tIndex : Ty (List (Int × Int × List (Int × Int × Int) × List Int) × List (List (Int × Int × List Int))) := tPair tQueryS tSpanSS
theorem tIndex_law : tIndex.Law := tPair_law tQueryS_law tSpanSS_law
theorem tIndex_R {w : World} {cs : List Value} {x0 : List (Int × Int × List (Int × Int × Int) × List Int)} {x1 : List (List (Int × Int × List Int))} (h : tIndex.R w cs (x0, x1)) : ∃ v0 v1, cs = [v0, v1] ∧ SlR tQuery w v0 x0 ∧ SlR tSpanS w v1 x1 := by
  obtain ⟨_, _, rfl, ⟨v0, rfl, h0⟩, ⟨v1, rfl, h1⟩⟩ := h
  exact ⟨_, _, rfl, h0, h1⟩
theorem tIndex_O {w : World} {F : Nat → Prop} {cs : List Value} {x0 : List (Int × Int × List (Int × Int × Int) × List Int)} {x1 : List (List (Int × Int × List Int))} (h : tIndex.O w F cs (x0, x1)) : ∃ v0 v1, ∃ F0 F1 : Nat → Prop, cs = [v0, v1] ∧ SlO 44 tQuery w F0 v0 x0 ∧ SlO 77 tSpanS w F1 v1 x1 ∧ (∀ b, F0 b → F b) ∧ (∀ b, F1 b → F b) ∧ (∀ b, F0 b → ¬ F1 b) := by
  obtain ⟨_, _, F0_1, F0_2, rfl, ⟨v0, rfl, h0⟩, ⟨v1, rfl, h1⟩, s0_1, s0_2, d0⟩ := h
  exact ⟨v0, v1, F0_1, F0_2, rfl, h0, h1, fun b h => (s0_1 b h), fun b h => (s0_2 b h), fun b h h2 => d0 b h h2⟩
theorem tIndex_mkO {w : World} {F : Nat → Prop} {x0 : List (Int × Int × List (Int × Int × Int) × List Int)} {x1 : List (List (Int × Int × List Int))} {v0 v1 : Value} {F0 F1 : Nat → Prop} (h0 : SlO 44 tQuery w F0 v0 x0) (h1 : SlO 77 tSpanS w F1 v1 x1) (s0 : ∀ b, F0 b → F b) (s1 : ∀ b, F1 b → F b) (d0_1 : ∀ b, F0 b → ¬ F1 b) : tIndex.O w F [v0, v1] (x0, x1) := ⟨[v0], [v1], F0, F1, rfl, ⟨_, rfl, h0⟩, ⟨_, rfl, h1⟩, (fun b h => s0 b h), (fun b h => s1 b h), (fun b h g => d0_1 b h g)⟩
set_option maxHeartbeats 8000000 in
set_option maxRecDepth 100000 in
theorem szIndex_Y (v0 v1 : Value) (x0 : List (Int × Int × List (Int × Int × Int) × List Int)) (x1 : List (List (Int × Int × List Int))) (k0 : Int) (w : World) (h0 : SlR tQuery w v0 x0) (h1 : SlR tSpanS w v1 x1) (hs : ((zL tQuery x0 + zL tSpanS x1 : Nat) : Int) ≤ k0) (hk : k0 ≤ 1048576) :
    Calls Tryd.prog 26 #[.agg #[v0, v1], .int .i64 k0] w fun e w' => e = .returned (.int .i64 (k0 - ((zL tQuery x0 + zL tSpanS x1 : Nat) : Int))) ∧ Below w.heap.size w w' := by
  have H0 := Lib.hid h0
  have H1 := Lib.hid h1
  clear h0 h1
  have HZ0 : Hid (((zL tQuery x0 : Nat) : Int) ≤ k0) := Lib.hid (by omega)
  have HK0 : Hid (k0 ≤ 1048576) := Lib.hid (by omega)
  have hn0 : ¬ k0 - ((zL tQuery x0 : Nat) : Int) < 0 := by omega
  have HZ1 : Hid (((zL tSpanS x1 : Nat) : Int) ≤ k0 - ((zL tQuery x0 : Nat) : Int)) := Lib.hid (by omega)
  have HK1 : Hid (k0 - ((zL tQuery x0 : Nat) : Int) ≤ 1048576) := Lib.hid (by omega)
  have hn1 : ¬ k0 - ((zL tQuery x0 : Nat) : Int) - ((zL tSpanS x1 : Nat) : Int) < 0 := by omega
  have HE : Hid (k0 - ((zL tQuery x0 : Nat) : Int) - ((zL tSpanS x1 : Nat) : Int) = k0 - ((zL tQuery x0 + zL tSpanS x1 : Nat) : Int)) := Lib.hid (by omega)
  clear hs hk
  have hb : Below w.heap.size w (w.alloc (.cells #[v0, v1] 56)) := (Below.refl _ w).alloc (Nat.le_refl _) _
  have g0 : (w.alloc (.cells #[v0, v1] 56)).heap[w.heap.size]? = some (.cells #[v0, v1] 56 (0, 0)) := heap_alloc_new w _
  have hz0 : w.heap.size < (w.alloc (.cells #[v0, v1] 56)).heap.size := by simp
  go_enter Tryd.func26, Tryd.ntmps26
  go_wp2_with fail
  generalize (w.alloc (.cells #[v0, v1] 56)) = W at *
  refine (szQueryS_Y v0 x0 (k0) W (slR_below tQuery_law H0.out hb) HZ0.out HK0.out).mono ?_
  rintro e W1 ⟨rfl, b1⟩
  replace g0 := (b1.block w.heap.size hz0).trans g0
  replace hz0 := Nat.lt_of_lt_of_le hz0 b1.size
  replace hb := hb.trans (b1.mono hb.size)
  clear b1
  have p1 := (cell_of_row W1 _ 1 _ _ _ g0).trans (show _ = some (v1) from rfl)
  go_wp2_with fail
  clear p1
  refine (szSpanSS_Y v1 x1 (k0 - ((zL tQuery x0 : Nat) : Int)) W1 (slR_below tSpanS_law H1.out hb) HZ1.out HK1.out).mono ?_
  rintro e W2 ⟨rfl, b1⟩
  replace g0 := (b1.block w.heap.size hz0).trans g0
  replace hz0 := Nat.lt_of_lt_of_le hz0 b1.size
  replace hb := hb.trans (b1.mono hb.size)
  clear b1
  go_wp2
  go_ret
  exact ⟨ty_ret HE.out, hb⟩
set_option maxHeartbeats 8000000 in
set_option maxRecDepth 100000 in
theorem szIndex_N (v0 v1 : Value) (x0 : List (Int × Int × List (Int × Int × Int) × List Int)) (x1 : List (List (Int × Int × List Int))) (k0 : Int) (w : World) (h0 : SlR tQuery w v0 x0) (h1 : SlR tSpanS w v1 x1) (hs : k0 < ((zL tQuery x0 + zL tSpanS x1 : Nat) : Int)) (hk : k0 ≤ 1048576) (hp : 0 ≤ k0) (o0 : tQueryS.ok x0) (o1 : tSpanSS.ok x1) :
    Calls Tryd.prog 26 #[.agg #[v0, v1], .int .i64 k0] w fun e w' => e = .returned (.int .i64 (-1)) ∧ Below w.heap.size w w' := by
  have H0 := Lib.hid h0
  have H1 := Lib.hid h1
  clear h0 h1
  have HO0 := Lib.hid o0
  have HO1 := Lib.hid o1
  clear o0 o1
  by_cases c0 : k0 < ((zL tQuery x0 : Nat) : Int)
  · have HZ0 : Hid (k0 < ((zL tQuery x0 : Nat) : Int)) := Lib.hid (by omega)
    have HP0 : Hid (0 ≤ k0) := Lib.hid (by omega)
    have HK0 : Hid (k0 ≤ 1048576) := Lib.hid (by omega)
    clear hs hk
    clear c0 hp
    have hb : Below w.heap.size w (w.alloc (.cells #[v0, v1] 56)) := (Below.refl _ w).alloc (Nat.le_refl _) _
    have g0 : (w.alloc (.cells #[v0, v1] 56)).heap[w.heap.size]? = some (.cells #[v0, v1] 56 (0, 0)) := heap_alloc_new w _
    have hz0 : w.heap.size < (w.alloc (.cells #[v0, v1] 56)).heap.size := by simp
    go_enter Tryd.func26, Tryd.ntmps26
    go_wp2_with fail
    generalize (w.alloc (.cells #[v0, v1] 56)) = W at *
    refine (szQueryS_N v0 x0 (k0) W (slR_below tQuery_law H0.out hb) HZ0.out HK0.out HP0.out HO0.out).mono ?_
    rintro e W1 ⟨rfl, b1⟩
    replace g0 := (b1.block w.heap.size hz0).trans g0
    replace hz0 := Nat.lt_of_lt_of_le hz0 b1.size
    replace hb := hb.trans (b1.mono hb.size)
    clear b1
    go_wp2
    go_ret
    exact ⟨rfl, hb⟩
  ·
    have HZ0 : Hid (((zL tQuery x0 : Nat) : Int) ≤ k0) := Lib.hid (by omega)
    have hn0 : ¬ k0 - ((zL tQuery x0 : Nat) : Int) < 0 := by omega
    have HK0 : Hid (k0 ≤ 1048576) := Lib.hid (by omega)
    have HZ1 : Hid (k0 - ((zL tQuery x0 : Nat) : Int) < ((zL tSpanS x1 : Nat) : Int)) := Lib.hid (by omega)
    have HP1 : Hid (0 ≤ k0 - ((zL tQuery x0 : Nat) : Int)) := Lib.hid (by omega)
    have HK1 : Hid (k0 - ((zL tQuery x0 : Nat) : Int) ≤ 1048576) := Lib.hid (by omega)
    clear hs hk
    clear hp c0
    have hb : Below w.heap.size w (w.alloc (.cells #[v0, v1] 56)) := (Below.refl _ w).alloc (Nat.le_refl _) _
    have g0 : (w.alloc (.cells #[v0, v1] 56)).heap[w.heap.size]? = some (.cells #[v0, v1] 56 (0, 0)) := heap_alloc_new w _
    have hz0 : w.heap.size < (w.alloc (.cells #[v0, v1] 56)).heap.size := by simp
    go_enter Tryd.func26, Tryd.ntmps26
    go_wp2_with fail
    generalize (w.alloc (.cells #[v0, v1] 56)) = W at *
    refine (szQueryS_Y v0 x0 (k0) W (slR_below tQuery_law H0.out hb) HZ0.out HK0.out).mono ?_
    rintro e W1 ⟨rfl, b1⟩
    replace g0 := (b1.block w.heap.size hz0).trans g0
    replace hz0 := Nat.lt_of_lt_of_le hz0 b1.size
    replace hb := hb.trans (b1.mono hb.size)
    clear b1
    have p1 := (cell_of_row W1 _ 1 _ _ _ g0).trans (show _ = some (v1) from rfl)
    go_wp2_with fail
    clear p1
    refine (szSpanSS_N v1 x1 (k0 - ((zL tQuery x0 : Nat) : Int)) W1 (slR_below tSpanS_law H1.out hb) HZ1.out HK1.out HP1.out HO1.out).mono ?_
    rintro e W2 ⟨rfl, b1⟩
    replace g0 := (b1.block w.heap.size hz0).trans g0
    replace hz0 := Nat.lt_of_lt_of_le hz0 b1.size
    replace hb := hb.trans (b1.mono hb.size)
    clear b1
    go_wp2
    go_ret
    exact ⟨rfl, hb⟩
set_option maxHeartbeats 8000000 in
set_option maxRecDepth 100000 in
theorem toIndex_T (v0 v1 : Value) (x0 : List (Int × Int × List (Int × Int × Int) × List Int)) (x1 : List (List (Int × Int × List Int))) (w : World) (h0 : SlR tQuery w v0 x0) (h1 : SlR tSpanS w v1 x1) (s0 : zL tQuery x0 ≤ 1048576) (s1 : zL tSpanS x1 ≤ 1048576) :
    Calls Tryd.prog 29 #[.agg #[v0, v1]] w (FreshT tIndex (fun cs => .agg cs.toArray) w (x0, x1)) := by
  have H0 := Lib.hid h0
  have H1 := Lib.hid h1
  clear h0 h1
  have S0 := Lib.hid s0
  have S1 := Lib.hid s1
  clear s0 s1
  go_enter Tryd.func29, Tryd.ntmps29
  go_wp2_with fail
  have hb : Below w.heap.size w (((w.alloc (.cells #[v0, v1] 56)).alloc (.cells #[.slice none 0 0, .slice none 0 0] 27)).alloc (.cells #[.slice none 0 0, .slice none 0 0] 27)) := (((Below.refl _ w).alloc (Nat.le_refl _) _).alloc (by simp) _).alloc (by simp; omega) _
  have g2 : (((w.alloc (.cells #[v0, v1] 56)).alloc (.cells #[.slice none 0 0, .slice none 0 0] 27)).alloc (.cells #[.slice none 0 0, .slice none 0 0] 27)).heap[w.heap.size + 1 + 1]? = some (.cells #[.slice none 0 0, .slice none 0 0] 27 (0, 0)) := by
    have := heap_alloc_new ((w.alloc (.cells #[v0, v1] 56)).alloc (.cells #[.slice none 0 0, .slice none 0 0] 27)) (.cells #[.slice none 0 0, .slice none 0 0] 27)
    simpa only [World.size_alloc] using this
  have g1 : (((w.alloc (.cells #[v0, v1] 56)).alloc (.cells #[.slice none 0 0, .slice none 0 0] 27)).alloc (.cells #[.slice none 0 0, .slice none 0 0] 27)).heap[w.heap.size + 1]? = some (.cells #[.slice none 0 0, .slice none 0 0] 27 (0, 0)) := by
    have := heap_alloc_new (w.alloc (.cells #[v0, v1] 56)) (.cells #[.slice none 0 0, .slice none 0 0] 27)
    rw [Below.heap_alloc _ _ _ (by simp)]
    simpa only [World.size_alloc] using this
  have g0 : (((w.alloc (.cells #[v0, v1] 56)).alloc (.cells #[.slice none 0 0, .slice none 0 0] 27)).alloc (.cells #[.slice none 0 0, .slice none 0 0] 27)).heap[w.heap.size]? = some (.cells #[v0, v1] 56 (0, 0)) := by
    rw [Below.heap_alloc _ _ _ (by simp; omega), Below.heap_alloc _ _ _ (by simp)]
    exact heap_alloc_new w _
  have hz : w.heap.size + 2 < (((w.alloc (.cells #[v0, v1] 56)).alloc (.cells #[.slice none 0 0, .slice none 0 0] 27)).alloc (.cells #[.slice none 0 0, .slice none 0 0] 27)).heap.size := by simp [World.size_alloc]
  generalize (((w.alloc (.cells #[v0, v1] 56)).alloc (.cells #[.slice none 0 0, .slice none 0 0] 27)).alloc (.cells #[.slice none 0 0, .slice none 0 0] 27)) = W at *
  refine (toQueryS_S v0 x0 W (slR_below tQuery_law H0.out hb) S0.out).mono ?_
  rintro e w1 ⟨u0, rfl, o0, b1⟩
  obtain ⟨ua0, uc0, rfl⟩ := slO_len o0
  replace o0 := slO_mono (slO_lt tQuery_law o0) (F' := fun b => W.heap.size ≤ b ∧ b < w1.heap.size) (fun b h => h)
  replace g0 := (b1.block _ (by omega)).trans g0
  replace g1 := (b1.block _ (by omega)).trans g1
  replace g2 := (b1.block _ (by omega)).trans g2
  have zz1 := b1.size
  replace hb := hb.trans (b1.mono (by omega))
  clear b1
  have c2_0 := (cell_of_row w1 _ 0 _ _ _ g2).trans (show _ = some (Value.slice none 0 0) from rfl)
  have f2_0 := frozen_of_row w1 _ 0 _ _ g2
  have ne1 : ¬ w.heap.size = w.heap.size + 1 + 1 := by omega
  have ne2 : ¬ w.heap.size + 1 = w.heap.size + 1 + 1 := by omega
  have ne3 : ¬ w.heap.size + 1 + 1 = w.heap.size + 1 := by omega
  have c0_1 := (cell_of_row w1 _ 1 _ _ _ g0).trans (show _ = some (v1) from rfl)
  have l0_1 : (w1.setCell ⟨w.heap.size + 1 + 1, 0, none⟩ (.slice ua0 x0.length uc0)).cell? ⟨w.heap.size, 1, none⟩ = some (v1) := by
    have m : (w1.setCell ⟨w.heap.size + 1 + 1, 0, none⟩ (.slice ua0 x0.length uc0)).heap[w.heap.size]? = some (.cells #[v0, v1] 56 (0, 0)) := by
      repeat rw [heap_setCell_other _ _ _ _ (by simp <;> omega)]
      exact g0
    exact (cell_of_row _ _ 1 _ _ _ m).trans rfl
  go_wp2_with fail
  clear c2_0 f2_0 ne1 ne2 ne3 c0_1 l0_1
  have hw : Turn (fun b => b = w.heap.size + 1 + 1) w1 (w1.setCell ⟨w.heap.size + 1 + 1, 0, none⟩ (.slice ua0 x0.length uc0)) := by
    first | exact ((Turn.refl _ _).trans (turn_set (g := w.heap.size + 1 + 1) (j := 0) (u := .slice ua0 x0.length uc0) rfl)) | skip
  replace g0 := (hw.block _ (by omega) (by omega)).trans g0
  replace g1 := (hw.block _ (by omega) (by omega)).trans g1
  have g2n := (heap_setCell_same _ (w.heap.size + 1 + 1) 0 _ _ (.slice ua0 x0.length uc0) g2)
  replace g2 : (w1.setCell ⟨w.heap.size + 1 + 1, 0, none⟩ (.slice ua0 x0.length uc0)).heap[w.heap.size + 1 + 1]? = some (.cells #[.slice ua0 x0.length uc0, .slice none 0 0] 27 (0, 0)) := by simpa using g2n
  clear g2n
  replace o0 := slO_turn tQuery_law o0 hw (fun b h1 h2 => by have := h1.1; omega)
  replace hb := below_turn hb hw (fun b h => by omega) (by omega)
  have hz0 := hw.size
  clear hw
  generalize (w1.setCell ⟨w.heap.size + 1 + 1, 0, none⟩ (.slice ua0 x0.length uc0)) = W1 at *
  refine (toSpanSS_S v1 x1 W1 (slR_below tSpanS_law H1.out hb) S1.out).mono ?_
  rintro e w2 ⟨u1, rfl, o1, b1⟩
  obtain ⟨ua1, uc1, rfl⟩ := slO_len o1
  replace o1 := slO_mono (slO_lt tSpanS_law o1) (F' := fun b => W1.heap.size ≤ b ∧ b < w2.heap.size) (fun b h => h)
  replace g0 := (b1.block _ (by omega)).trans g0
  replace g1 := (b1.block _ (by omega)).trans g1
  replace g2 := (b1.block _ (by omega)).trans g2
  replace o0 := slO_fresh tQuery_law o0 b1
  have zz2 := b1.size
  replace hb := hb.trans (b1.mono (by omega))
  clear b1
  have c2_0 := (cell_of_row w2 _ 0 _ _ _ g2).trans (show _ = some (Value.slice ua0 x0.length uc0) from rfl)
  have f2_0 := frozen_of_row w2 _ 0 _ _ g2
  have c2_1 := (cell_of_row w2 _ 1 _ _ _ g2).trans (show _ = some (Value.slice none 0 0) from rfl)
  have f2_1 := frozen_of_row w2 _ 1 _ _ g2
  have ne1 : ¬ w.heap.size = w.heap.size + 1 + 1 := by omega
  have ne2 : ¬ w.heap.size + 1 = w.heap.size + 1 + 1 := by omega
  have ne3 : ¬ w.heap.size + 1 + 1 = w.heap.size + 1 := by omega
  have c1_0 := (cell_of_row w2 _ 0 _ _ _ g1).trans (show _ = some (Value.slice none 0 0) from rfl)
  have f1_0 := frozen_of_row w2 _ 0 _ _ g1
  have c1_1 := (cell_of_row w2 _ 1 _ _ _ g1).trans (show _ = some (Value.slice none 0 0) from rfl)
  have f1_1 := frozen_of_row w2 _ 1 _ _ g1
  go_wp2
  clear c2_0 f2_0 c2_1 f2_1 ne1 ne2 ne3 c1_0 f1_0 c1_1 f1_1
  have hw : Turn (fun b => b = w.heap.size + 1 ∨ b = w.heap.size + 1 + 1) w2 (((w2.setCell ⟨w.heap.size + 1 + 1, 1, none⟩ (.slice ua1 x1.length uc1)).setCell ⟨w.heap.size + 1, 0, none⟩ (.slice ua0 x0.length uc0)).setCell ⟨w.heap.size + 1, 1, none⟩ (.slice ua1 x1.length uc1)) := by
    first | exact ((((Turn.refl _ _).trans (turn_set (g := w.heap.size + 1 + 1) (j := 1) (u := .slice ua1 x1.length uc1) (Or.inr rfl))).trans (turn_set (g := w.heap.size + 1) (j := 0) (u := .slice ua0 x0.length uc0) (Or.inl rfl))).trans (turn_set (g := w.heap.size + 1) (j := 1) (u := .slice ua1 x1.length uc1) (Or.inl rfl))) | skip
  have r := (heap_setCell_same _ (w.heap.size + 1) 1 _ _ (.slice ua1 x1.length uc1) (heap_setCell_same _ (w.heap.size + 1) 0 _ _ (.slice ua0 x0.length uc0) ((heap_setCell_other _ ⟨w.heap.size + 1 + 1, 1, none⟩ (w.heap.size + 1) (.slice ua1 x1.length uc1) (by simp)).trans g1)))
  have e0 := cell_of_row _ _ 0 _ _ _ r
  have e1 := cell_of_row _ _ 1 _ _ _ r
  simp at e0 e1
  replace o0 := slO_turn tQuery_law o0 hw (fun b h1 h2 => by have := h1.1; omega)
  replace o1 := slO_turn tSpanS_law o1 hw (fun b h1 h2 => by have := h1.1; omega)
  replace hb := below_turn hb hw (fun b h => by omega) (by omega)
  refine bodyPost_ret (v := .agg #[.slice ua0 x0.length uc0, .slice ua1 x1.length uc1]) ?_ rfl ?_
  · simp [results, Tryd.f29, go_sem, e0, e1]
  · exact ⟨[.slice ua0 x0.length uc0, .slice ua1 x1.length uc1], rfl, tIndex_mkO o0 o1 (fun b h => by show w.heap.size ≤ b; have := h.1; omega) (fun b h => by show w.heap.size ≤ b; have := h.1; omega) (fun b h1 h2 => by have := h1.1; have := h1.2; have := h2.1; have := h2.2; omega), hb⟩
set_option maxHeartbeats 8000000 in
set_option maxRecDepth 100000 in
theorem eqIndex_T (v0 v1 : Value) (x0 : List (Int × Int × List (Int × Int × Int) × List Int)) (x1 : List (List (Int × Int × List Int))) (u0 u1 : Value) (w : World) (h0 : SlR tQuery w v0 x0) (h1 : SlR tSpanS w v1 x1) (g0 : SlR tQuery w u0 x0) (g1 : SlR tSpanS w u1 x1) (s0 : zL tQuery x0 ≤ 1048576) (s1 : zL tSpanS x1 ≤ 1048576) :
    Calls Tryd.prog 32 #[.agg #[v0, v1], .agg #[u0, u1]] w fun e w' => e = .returned (.bool true) ∧ Below w.heap.size w w' := by
  have H0 := Lib.hid h0; have G0 := Lib.hid g0; have S0 := Lib.hid s0
  have H1 := Lib.hid h1; have G1 := Lib.hid g1; have S1 := Lib.hid s1
  clear h0 g0 s0 h1 g1 s1
  go_enter Tryd.func32, Tryd.ntmps32
  go_wp2_with fail
  have hb : Below w.heap.size w ((w.alloc (.cells #[v0, v1] 27)).alloc (.cells #[u0, u1] 27)) := ((Below.refl _ w).alloc (Nat.le_refl _) _).alloc (by simp) _
  have g1 : ((w.alloc (.cells #[v0, v1] 27)).alloc (.cells #[u0, u1] 27)).heap[w.heap.size + 1]? = some (.cells #[u0, u1] 27 (0, 0)) := by
    have := heap_alloc_new (w.alloc (.cells #[v0, v1] 27)) (.cells #[u0, u1] 27)
    simpa only [World.size_alloc] using this
  have g0 : ((w.alloc (.cells #[v0, v1] 27)).alloc (.cells #[u0, u1] 27)).heap[w.heap.size]? = some (.cells #[v0, v1] 27 (0, 0)) := by
    rw [Below.heap_alloc _ _ _ (by simp)]
    exact heap_alloc_new w _
  have hz : w.heap.size + 1 < ((w.alloc (.cells #[v0, v1] 27)).alloc (.cells #[u0, u1] 27)).heap.size := by simp [World.size_alloc]
  generalize ((w.alloc (.cells #[v0, v1] 27)).alloc (.cells #[u0, u1] 27)) = W at *
  refine (eqQueryS_S v0 u0 x0 W (slR_below tQuery_law H0.out hb) (slR_below tQuery_law G0.out hb) S0.out).mono ?_
  rintro e w1 ⟨rfl, b1⟩
  replace g0 := (b1.block _ (by omega)).trans g0
  replace g1 := (b1.block _ (by omega)).trans g1
  have zz0 := b1.size
  replace hb := hb.trans (b1.mono (by omega))
  clear b1
  have p0_1 := (cell_of_row w1 _ 1 _ _ _ g0).trans (show _ = some (v1) from rfl)
  have p1_1 := (cell_of_row w1 _ 1 _ _ _ g1).trans (show _ = some (u1) from rfl)
  go_wp2_with fail
  clear p0_1 p1_1
  refine (eqSpanSS_S v1 u1 x1 w1 (slR_below tSpanS_law H1.out hb) (slR_below tSpanS_law G1.out hb) S1.out).mono ?_
  rintro e w2 ⟨rfl, b1⟩
  replace g0 := (b1.block _ (by omega)).trans g0
  replace g1 := (b1.block _ (by omega)).trans g1
  have zz1 := b1.size
  replace hb := hb.trans (b1.mono (by omega))
  clear b1
  go_wp2
  go_ret
  exact ⟨rfl, hb⟩
set_option maxHeartbeats 8000000 in
set_option maxRecDepth 100000 in
theorem markIndex_T (v0 v1 : Value) (x0 : List (Int × Int × List (Int × Int × Int) × List Int)) (x1 : List (List (Int × Int × List Int))) (F F0 F1 : Nat → Prop) (k : Int) (w : World) (h0 : SlO 44 tQuery w F0 v0 x0) (h1 : SlO 77 tSpanS w F1 v1 x1) (q0 : ∀ b, F0 b → F b) (q1 : ∀ b, F1 b → F b) (d0_1 : ∀ b, F0 b → ¬ F1 b) (s0 : zL tQuery x0 ≤ 1048576) (s1 : zL tSpanS x1 ≤ 1048576) (k0 : 0 ≤ k) (k1 : k ≤ 536870912) :
    Calls Tryd.prog 34 #[.agg #[v0, v1], .int .i64 k] w fun e w' => e = .returned (.int .i64 (k + (ndL tQuery x0 : Int) + (ndL tSpanS x1 : Int))) ∧ (SlO 44 tQuery w' F0 v0 (mAll tQuery x0 (k)) ∧ SlO 77 tSpanS w' F1 v1 (mAll tSpanS x1 (k + (ndL tQuery x0 : Int)))) ∧ Turn F w w' := by
  have S0 := Lib.hid s0
  have N0 := ndL_le tQuery_law (by decide) x0
  have S1 := Lib.hid s1
  have N1 := ndL_le tSpanS_law (by decide) x1
  have R0 : Hid (0 ≤ k ∧ k ≤ 939524096) := Lib.hid (by omega)
  have R1 : Hid (0 ≤ k + (ndL tQuery x0 : Int) ∧ k + (ndL tQuery x0 : Int) ≤ 939524096) := Lib.hid (by omega)
  have RE : Hid (0 ≤ k + (ndL tQuery x0 : Int) + (ndL tSpanS x1 : Int)) := Lib.hid (by omega)
  clear N0 N1
  have O0 := Lib.hid (slO_lt tQuery_law h0)
  have O1 := Lib.hid (slO_lt tSpanS_law h1)
  clear h0 s0 h1 s1
  go_enter Tryd.func34, Tryd.ntmps34
  go_wp2_with fail
  have hb : Below w.heap.size w (w.alloc (.cells #[v0, v1] 27)) := (Below.refl _ w).alloc (Nat.le_refl _) _
  have g0 : (w.alloc (.cells #[v0, v1] 27)).heap[w.heap.size]? = some (.cells #[v0, v1] 27 (0, 0)) := heap_alloc_new w _
  have hz : w.heap.size < (w.alloc (.cells #[v0, v1] 27)).heap.size := by simp [World.size_alloc]
  have ht : Turn F w (w.alloc (.cells #[v0, v1] 27)) := turn_below hb
  replace O0 := Lib.hid (slO_fresh tQuery_law O0.out hb)
  replace O1 := Lib.hid (slO_fresh tSpanS_law O1.out hb)
  generalize (w.alloc (.cells #[v0, v1] 27)) = W at *
  refine (markQueryS_S v0 x0 _ (k) W O0.out S0.out R0.out.1 R0.out.2).mono ?_
  rintro e w1 ⟨rfl, m0, t1⟩
  replace g0 := (t1.block _ hz (fun h => absurd h.2 (Nat.lt_irrefl _))).trans g0
  have zz0 := t1.size
  replace hz := Nat.lt_of_lt_of_le hz t1.size
  replace ht := ht.trans (t1.mono (fun b h => q0 b h.1))
  replace O0 := Lib.hid m0
  replace O1 := Lib.hid (slO_turn tSpanS_law O1.out t1 (fun b h1 h2 => d0_1 b h2.1 h1.1))
  clear m0 t1
  have p1 := (cell_of_row w1 _ 1 _ _ _ g0).trans (show _ = some (v1) from rfl)
  go_wp2_with fail
  clear p1
  refine (markSpanSS_S v1 x1 _ (k + (ndL tQuery x0 : Int)) w1 O1.out S1.out R1.out.1 R1.out.2).mono ?_
  rintro e w2 ⟨rfl, m1, t1⟩
  replace g0 := (t1.block _ hz (fun h => absurd h.2 (Nat.lt_irrefl _))).trans g0
  have zz1 := t1.size
  replace hz := Nat.lt_of_lt_of_le hz t1.size
  replace ht := ht.trans (t1.mono (fun b h => q1 b h.1))
  replace O0 := Lib.hid (slO_turn tQuery_law O0.out t1 (fun b h1 h2 => d0_1 b h1.1 h2.1))
  replace O1 := Lib.hid m1
  clear m1 t1
  go_wp2
  go_ret
  exact ⟨rfl, ⟨slO_mono O0.out (fun b h => h.1), slO_mono O1.out (fun b h => h.1)⟩, ht⟩
end Go.Proofs.YtidhmgboknffkaaDoor
namespace Go.Proofs.YtidhmgboknffkaaDoor
open Go.RowKit
set_option linter.unusedVariables false
set_option linter.unusedSimpArgs false
theorem sum_all_le {α : Type} {f : α → Nat} {M : Nat} : ∀ (xs : List α), (∀ x ∈ xs, f x ≤ M) → (xs.map f).sum ≤ xs.length * M
  | [], _ => by simp
  | x :: xs, h => by
    have h1 := sum_all_le xs (fun y hy => h y (List.mem_cons_of_mem _ hy))
    have h2 := h x (List.mem_cons_self ..)
    rw [List.length_cons, Nat.add_mul, Nat.one_mul, List.map_cons, List.sum_cons]
    omega
theorem zL_le {α : Type} {T : Ty α} {xs : List α} {M : Nat} (h : ∀ x ∈ xs, T.sz x ≤ M) : zL T xs ≤ xs.length * (1 + M) := by
  have h1 := sum_all_le xs h
  show xs.length + ((xs.take xs.length).map T.sz).sum ≤ _
  rw [List.take_length, Nat.mul_add, Nat.mul_one]
  omega
end Go.Proofs.YtidhmgboknffkaaDoor
namespace Go.Proofs.YtidhmgboknffkaaDoor
open Go.RowKit
set_option linter.unusedVariables false
set_option linter.unusedSimpArgs false
theorem fld_zL (qs : List QD) : zL tSpanS (fldTo qs 3) ≤ 1048576 := by
  have h : zL tSpanS (fldTo qs 3) ≤ (fldTo qs 3).length * (1 + 2500) := by
    apply zL_le
    intro l hlm
    obtain ⟨f, _, rfl⟩ := List.mem_map.1 hlm
    show zL tSpan _ ≤ _
    rw [zL_spans]
    exact spansL_size qs (f : Int)
  rw [fldTo_len] at h
  omega
theorem isIdx_isnt {qs : List QD} {fs : List (List SpanD)} (h : areQB qs = false) : isIndexB qs fs = false := by unfold isIndexB; rw [h]; rfl
theorem isIdx_is {qs : List QD} {fs : List (List SpanD)} (h : areQB qs = true) : isIndexB qs fs = decide (fs = fldTo qs 3) := by unfold isIndexB; rw [h, Bool.true_and]
set_option maxHeartbeats 16000000 in
set_option maxRecDepth 100000 in
theorem implIsIndex (qv fv : Value) (qs : List QD) (fs : List (List SpanD)) (w : World) (h1 : SlR tQuery w qv qs) (h2 : SlR tSpanS w fv fs) (hs : zL tQuery qs ≤ 1048576) (hz : zL tSpanS fs ≤ 1048576) :
    Calls Tryd.prog 13 #[.agg #[qv, fv]] w fun e w' => e = .returned (.bool (isIndexB qs fs)) ∧ Below w.heap.size w w' := by
  have HSQ : Hid (szQL qs ≤ 1048576) := Lib.hid (by rw [← zL_queries]; exact hs)
  have HZF := Lib.hid hz
  have hlen := zL_len hs
  have hlen2 := zL_len hz
  obtain ⟨qa, qc, rfl⟩ := slR_len h1
  obtain ⟨fa, fc, rfl⟩ := slR_len h2
  have d := Lib.hid ((Below.refl w.heap.size w).alloc (Nat.le_refl _) (.cells #[.slice qa qs.length qc, .slice fa fs.length fc] 27))
  have B0 : Hid ((w.alloc (.cells #[.slice qa qs.length qc, .slice fa fs.length fc] 27)).heap[w.heap.size]? = some (.cells #[.slice qa qs.length qc, .slice fa fs.length fc] 27 (0, 0))) := Lib.hid (heap_alloc_new w _)
  have H1 := Lib.hid h1
  have H2 := Lib.hid h2
  have HA := Lib.hid (fun w h => implAreQueries (.slice qa qs.length qc) qs w h HSQ.out)
  clear h1 h2 hs hz
  cases hq : areQB qs with
  | false =>
    have HE := Lib.hid (isIdx_isnt (fs := fs) hq)
    rw [hq] at HA
    clear hq
    go_enter Tryd.func13, Tryd.ntmps13
    go_wp2
    generalize w.alloc (.cells #[.slice qa qs.length qc, .slice fa fs.length fc] 27) = W at *
    have p_B0_0 := (cell_of_row W _ 0 _ _ _ B0.out).trans (show _ = some (Value.slice qa qs.length qc) from rfl)
    have p_B0_1 := (cell_of_row W _ 1 _ _ _ B0.out).trans (show _ = some (Value.slice fa fs.length fc) from rfl)
    refine wp_region_held_drew (S := fun w' => w'.cell? ⟨w.heap.size, 0, none⟩ = some (Value.slice qa qs.length qc) ∧ w'.cell? ⟨w.heap.size, 1, none⟩ = some (Value.slice fa fs.length fc)) (by kernel_rfl) ⟨p_B0_0, p_B0_1⟩ (fun hHeld => ?_)
    clear p_B0_0 p_B0_1
    have cdr : Below W.heap.size W W.drew := below_drew (Below.refl _ _)
    replace B0 := Lib.hid ((cdr.block w.heap.size (Array.getElem?_eq_some_iff.1 B0.out).1).trans B0.out)
    replace d := Lib.hid (d.out.trans (cdr.mono d.out.size))
    clear cdr
    refine take_runs (i := 0) (v := ?_) (by simp only [List.getElem?_toArray, List.getElem?_cons_succ, List.getElem?_cons_zero]; rfl) (by kernel_rfl) (by kernel_rfl) (by kernel_rfl) rfl (by exact fun _ _ _ h => h) (by rfl) ?_ (by assumption) ?_
    rotate_left
    · intro w hSw; (try dsimp only at hSw); go_simp; try (with_reducible rfl)
    try simp only [Act.put, List.setIfInBounds_toArray, List.set_cons_zero, List.set_cons_succ]
    refine take_runs (i := 1) (v := ?_) (by simp only [List.getElem?_toArray, List.getElem?_cons_succ, List.getElem?_cons_zero]; rfl) (by kernel_rfl) (by kernel_rfl) (by kernel_rfl) rfl (by exact fun _ _ _ h => h) (by rfl) ?_ (by assumption) ?_
    rotate_left
    · intro w hSw; (try dsimp only at hSw); go_simp; try (with_reducible rfl)
    try simp only [Act.put, List.setIfInBounds_toArray, List.set_cons_zero, List.set_cons_succ]
    refine wpAnyH_ready (rs := [2]) (by kernel_rfl) (by simp) ?_
    refine (AllReadyH.cons (o := _) (by simp only [List.getElem?_toArray, List.getElem?_cons_succ, List.getElem?_cons_zero]; rfl) (fun K hK => ?_) AllReadyH.nil)
    go_simp
    refine (HA.out (W.drew) (slR_queries (slR_below tQuery_law H1.out d.out))).mono ?_
    rintro e w4 ⟨rfl, c4⟩
    replace B0 := Lib.hid ((c4.block w.heap.size (Array.getElem?_eq_some_iff.1 B0.out).1).trans B0.out)
    replace d := Lib.hid (d.out.trans (c4.mono d.out.size))
    have Z_w4 := Lib.hid (show W.heap.size ≤ w4.heap.size from c4.size)
    clear c4
    have p_B0_0 := (cell_of_row w4 _ 0 _ _ _ B0.out).trans (show _ = some (Value.slice qa qs.length qc) from rfl)
    have p_B0_1 := (cell_of_row w4 _ 1 _ _ _ B0.out).trans (show _ = some (Value.slice fa fs.length fc) from rfl)
    refine hK.out _ _ ⟨p_B0_0, p_B0_1⟩ (fun hHeld => ?_)
    clear p_B0_0 p_B0_1
    clear hK K
    try simp only [Act.put, List.setIfInBounds_toArray, List.set_cons_zero, List.set_cons_succ]
    refine take_runs (i := 3) (v := ?_) (by simp only [List.getElem?_toArray, List.getElem?_cons_succ, List.getElem?_cons_zero]; rfl) (by kernel_rfl) (by kernel_rfl) (by kernel_rfl) rfl (by exact fun _ _ _ h => h) (by rfl) ?_ (by assumption) ?_
    rotate_left
    · intro w hSw; (try dsimp only at hSw); go_simp; try (with_reducible rfl)
    try simp only [Act.put, List.setIfInBounds_toArray, List.set_cons_zero, List.set_cons_succ]
    refine take_over (i := 4) (by simp only [List.getElem?_toArray, List.getElem?_cons_succ, List.getElem?_cons_zero]; rfl) (by kernel_rfl) (by kernel_rfl) (by kernel_rfl) rfl (by exact fun _ _ _ h => h) (by rfl) (by assumption) ?_
    try simp only [Act.put, List.setIfInBounds_toArray, List.set_cons_zero, List.set_cons_succ]
    refine take_over (i := 5) (by simp only [List.getElem?_toArray, List.getElem?_cons_succ, List.getElem?_cons_zero]; rfl) (by kernel_rfl) (by kernel_rfl) (by kernel_rfl) rfl (by exact fun _ _ _ h => h) (by rfl) (by assumption) ?_
    try simp only [Act.put, List.setIfInBounds_toArray, List.set_cons_zero, List.set_cons_succ]
    refine take_over (i := 6) (by simp only [List.getElem?_toArray, List.getElem?_cons_succ, List.getElem?_cons_zero]; rfl) (by kernel_rfl) (by kernel_rfl) (by kernel_rfl) rfl (by exact fun _ _ _ h => h) (by rfl) (by assumption) ?_
    try simp only [Act.put, List.setIfInBounds_toArray, List.set_cons_zero, List.set_cons_succ]
    refine take_over (i := 7) (by simp only [List.getElem?_toArray, List.getElem?_cons_succ, List.getElem?_cons_zero]; rfl) (by kernel_rfl) (by kernel_rfl) (by kernel_rfl) rfl (by exact fun _ _ _ h => h) (by rfl) (by assumption) ?_
    try simp only [Act.put, List.setIfInBounds_toArray, List.set_cons_zero, List.set_cons_succ]
    refine take_over (i := 8) (by simp only [List.getElem?_toArray, List.getElem?_cons_succ, List.getElem?_cons_zero]; rfl) (by kernel_rfl) (by kernel_rfl) (by kernel_rfl) rfl (by exact fun _ _ _ h => h) (by rfl) (by assumption) ?_
    try simp only [Act.put, List.setIfInBounds_toArray, List.set_cons_zero, List.set_cons_succ]
    refine take_over (i := 9) (by simp only [List.getElem?_toArray, List.getElem?_cons_succ, List.getElem?_cons_zero]; rfl) (by kernel_rfl) (by kernel_rfl) (by kernel_rfl) rfl (by exact fun _ _ _ h => h) (by rfl) (by assumption) ?_
    try simp only [Act.put, List.setIfInBounds_toArray, List.set_cons_zero, List.set_cons_succ]
    refine take_runs (i := 10) (v := ?_) (by simp only [List.getElem?_toArray, List.getElem?_cons_succ, List.getElem?_cons_zero]; rfl) (by kernel_rfl) (by kernel_rfl) (by kernel_rfl) rfl (by exact fun _ _ _ h => h) (by rfl) ?_ (by assumption) ?_
    rotate_left
    · intro w hSw; (try dsimp only at hSw); go_simp; try (with_reducible rfl)
    try simp only [Act.put, List.setIfInBounds_toArray, List.set_cons_zero, List.set_cons_succ]
    refine take_runs (i := 11) (v := ?_) (by simp only [List.getElem?_toArray, List.getElem?_cons_succ, List.getElem?_cons_zero]; rfl) (by kernel_rfl) (by kernel_rfl) (by kernel_rfl) rfl (by exact fun _ _ _ h => h) (by rfl) ?_ (by assumption) ?_
    rotate_left
    · intro w hSw; (try dsimp only at hSw); go_simp; try (with_reducible rfl)
    try simp only [Act.put, List.setIfInBounds_toArray, List.set_cons_zero, List.set_cons_succ]
    refine wpAnyH_done (by kernel_rfl) ?_ _
    clear hHeld
    go_wp2
    go_ret
    exact ⟨ret_b HE.out.symm, d.out⟩
  | true =>
    have HE := Lib.hid (isIdx_is (fs := fs) hq)
    rw [hq] at HA
    clear hq
    go_enter Tryd.func13, Tryd.ntmps13
    go_wp2
    generalize w.alloc (.cells #[.slice qa qs.length qc, .slice fa fs.length fc] 27) = W at *
    have p_B0_0 := (cell_of_row W _ 0 _ _ _ B0.out).trans (show _ = some (Value.slice qa qs.length qc) from rfl)
    have p_B0_1 := (cell_of_row W _ 1 _ _ _ B0.out).trans (show _ = some (Value.slice fa fs.length fc) from rfl)
    refine wp_region_held_drew (S := fun w' => w'.cell? ⟨w.heap.size, 0, none⟩ = some (Value.slice qa qs.length qc) ∧ w'.cell? ⟨w.heap.size, 1, none⟩ = some (Value.slice fa fs.length fc)) (by kernel_rfl) ⟨p_B0_0, p_B0_1⟩ (fun hHeld => ?_)
    clear p_B0_0 p_B0_1
    have cdr : Below W.heap.size W W.drew := below_drew (Below.refl _ _)
    replace B0 := Lib.hid ((cdr.block w.heap.size (Array.getElem?_eq_some_iff.1 B0.out).1).trans B0.out)
    replace d := Lib.hid (d.out.trans (cdr.mono d.out.size))
    clear cdr
    refine take_runs (i := 0) (v := ?_) (by simp only [List.getElem?_toArray, List.getElem?_cons_succ, List.getElem?_cons_zero]; rfl) (by kernel_rfl) (by kernel_rfl) (by kernel_rfl) rfl (by exact fun _ _ _ h => h) (by rfl) ?_ (by assumption) ?_
    rotate_left
    · intro w hSw; (try dsimp only at hSw); go_simp; try (with_reducible rfl)
    try simp only [Act.put, List.setIfInBounds_toArray, List.set_cons_zero, List.set_cons_succ]
    refine take_runs (i := 1) (v := ?_) (by simp only [List.getElem?_toArray, List.getElem?_cons_succ, List.getElem?_cons_zero]; rfl) (by kernel_rfl) (by kernel_rfl) (by kernel_rfl) rfl (by exact fun _ _ _ h => h) (by rfl) ?_ (by assumption) ?_
    rotate_left
    · intro w hSw; (try dsimp only at hSw); go_simp; try (with_reducible rfl)
    try simp only [Act.put, List.setIfInBounds_toArray, List.set_cons_zero, List.set_cons_succ]
    refine wpAnyH_ready (rs := [2]) (by kernel_rfl) (by simp) ?_
    refine (AllReadyH.cons (o := _) (by simp only [List.getElem?_toArray, List.getElem?_cons_succ, List.getElem?_cons_zero]; rfl) (fun K hK => ?_) AllReadyH.nil)
    go_simp
    refine (HA.out (W.drew) (slR_queries (slR_below tQuery_law H1.out d.out))).mono ?_
    rintro e w4 ⟨rfl, c4⟩
    replace B0 := Lib.hid ((c4.block w.heap.size (Array.getElem?_eq_some_iff.1 B0.out).1).trans B0.out)
    replace d := Lib.hid (d.out.trans (c4.mono d.out.size))
    have Z_w4 := Lib.hid (show W.heap.size ≤ w4.heap.size from c4.size)
    clear c4
    have p_B0_0 := (cell_of_row w4 _ 0 _ _ _ B0.out).trans (show _ = some (Value.slice qa qs.length qc) from rfl)
    have p_B0_1 := (cell_of_row w4 _ 1 _ _ _ B0.out).trans (show _ = some (Value.slice fa fs.length fc) from rfl)
    refine hK.out _ _ ⟨p_B0_0, p_B0_1⟩ (fun hHeld => ?_)
    clear p_B0_0 p_B0_1
    clear hK K
    try simp only [Act.put, List.setIfInBounds_toArray, List.set_cons_zero, List.set_cons_succ]
    refine take_runs (i := 3) (v := ?_) (by simp only [List.getElem?_toArray, List.getElem?_cons_succ, List.getElem?_cons_zero]; rfl) (by kernel_rfl) (by kernel_rfl) (by kernel_rfl) rfl (by exact fun _ _ _ h => h) (by rfl) ?_ (by assumption) ?_
    rotate_left
    · intro w hSw; (try dsimp only at hSw); go_simp; try (with_reducible rfl)
    try simp only [Act.put, List.setIfInBounds_toArray, List.set_cons_zero, List.set_cons_succ]
    refine take_runs (i := 4) (v := ?_) (by simp only [List.getElem?_toArray, List.getElem?_cons_succ, List.getElem?_cons_zero]; rfl) (by kernel_rfl) (by kernel_rfl) (by kernel_rfl) rfl (by exact fun _ _ _ h => h) (by rfl) ?_ (by assumption) ?_
    rotate_left
    · intro w hSw; (try dsimp only at hSw); go_simp; try (with_reducible rfl)
    try simp only [Act.put, List.setIfInBounds_toArray, List.set_cons_zero, List.set_cons_succ]
    refine take_runs (i := 5) (v := ?_) (by simp only [List.getElem?_toArray, List.getElem?_cons_succ, List.getElem?_cons_zero]; rfl) (by kernel_rfl) (by kernel_rfl) (by kernel_rfl) rfl (by exact fun _ _ _ h => h) (by rfl) ?_ (by assumption) ?_
    rotate_left
    · intro w hSw; (try dsimp only at hSw); go_simp; try (with_reducible rfl)
    try simp only [Act.put, List.setIfInBounds_toArray, List.set_cons_zero, List.set_cons_succ]
    refine take_runs (i := 6) (v := ?_) (by simp only [List.getElem?_toArray, List.getElem?_cons_succ, List.getElem?_cons_zero]; rfl) (by kernel_rfl) (by kernel_rfl) (by kernel_rfl) rfl (by exact fun _ _ _ h => h) (by rfl) ?_ (by assumption) ?_
    rotate_left
    · intro w hSw; (try dsimp only at hSw); go_simp; try (with_reducible rfl)
    try simp only [Act.put, List.setIfInBounds_toArray, List.set_cons_zero, List.set_cons_succ]
    refine take_runs (i := 7) (v := ?_) (by simp only [List.getElem?_toArray, List.getElem?_cons_succ, List.getElem?_cons_zero]; rfl) (by kernel_rfl) (by kernel_rfl) (by kernel_rfl) rfl (by exact fun _ _ _ h => h) (by rfl) ?_ (by assumption) ?_
    rotate_left
    · intro w hSw; (try dsimp only at hSw); go_simp; try (with_reducible rfl)
    try simp only [Act.put, List.setIfInBounds_toArray, List.set_cons_zero, List.set_cons_succ]
    refine wpAnyH_ready (rs := [8]) (by kernel_rfl) (by simp) ?_
    refine (AllReadyH.cons (o := _) (by simp only [List.getElem?_toArray, List.getElem?_cons_succ, List.getElem?_cons_zero]; rfl) (fun K hK => ?_) AllReadyH.nil)
    go_simp
    refine (implStabIndexes (.slice qa qs.length qc) qs w4 (slR_queries (slR_below tQuery_law H1.out d.out)) HSQ.out).mono ?_
    rintro e w5 ⟨su, rfl, os, c5⟩
    replace B0 := Lib.hid ((c5.block w.heap.size (Array.getElem?_eq_some_iff.1 B0.out).1).trans B0.out)
    replace d := Lib.hid (d.out.trans (c5.mono d.out.size))
    have Z_w5 := Lib.hid (show w4.heap.size ≤ w5.heap.size from c5.size)
    clear c5
    have S5 := Lib.hid (slO_reads tSpanS_law os)
    clear os
    have p_B0_0 := (cell_of_row w5 _ 0 _ _ _ B0.out).trans (show _ = some (Value.slice qa qs.length qc) from rfl)
    have p_B0_1 := (cell_of_row w5 _ 1 _ _ _ B0.out).trans (show _ = some (Value.slice fa fs.length fc) from rfl)
    refine hK.out _ _ ⟨p_B0_0, p_B0_1⟩ (fun hHeld => ?_)
    clear p_B0_0 p_B0_1
    clear hK K
    try simp only [Act.put, List.setIfInBounds_toArray, List.set_cons_zero, List.set_cons_succ]
    refine wpAnyH_ready (rs := [9]) (by kernel_rfl) (by simp) ?_
    refine (AllReadyH.cons (o := _) (by simp only [List.getElem?_toArray, List.getElem?_cons_succ, List.getElem?_cons_zero]; rfl) (fun K hK => ?_) AllReadyH.nil)
    go_simp
    refine (fieldsFunc_any (.slice fa fs.length fc) su fs (fldTo qs 3) w5 (slR_below tSpanS_law H2.out d.out) S5.out HZF.out (fld_zL qs)).mono ?_
    rintro e w6 ⟨rfl, c6⟩
    replace B0 := Lib.hid ((c6.block w.heap.size (Array.getElem?_eq_some_iff.1 B0.out).1).trans B0.out)
    replace d := Lib.hid (d.out.trans (c6.mono d.out.size))
    have Z_w6 := Lib.hid (show w5.heap.size ≤ w6.heap.size from c6.size)
    clear c6 S5
    generalize decide (fs = fldTo qs 3) = rr at *
    have p_B0_0 := (cell_of_row w6 _ 0 _ _ _ B0.out).trans (show _ = some (Value.slice qa qs.length qc) from rfl)
    have p_B0_1 := (cell_of_row w6 _ 1 _ _ _ B0.out).trans (show _ = some (Value.slice fa fs.length fc) from rfl)
    refine hK.out _ _ ⟨p_B0_0, p_B0_1⟩ (fun hHeld => ?_)
    clear p_B0_0 p_B0_1
    clear hK K
    try simp only [Act.put, List.setIfInBounds_toArray, List.set_cons_zero, List.set_cons_succ]
    refine take_runs (i := 10) (v := ?_) (by simp only [List.getElem?_toArray, List.getElem?_cons_succ, List.getElem?_cons_zero]; rfl) (by kernel_rfl) (by kernel_rfl) (by kernel_rfl) rfl (by exact fun _ _ _ h => h) (by rfl) ?_ (by assumption) ?_
    rotate_left
    · intro w hSw; (try dsimp only at hSw); go_simp; try (with_reducible rfl)
    try simp only [Act.put, List.setIfInBounds_toArray, List.set_cons_zero, List.set_cons_succ]
    refine take_runs (i := 11) (v := ?_) (by simp only [List.getElem?_toArray, List.getElem?_cons_succ, List.getElem?_cons_zero]; rfl) (by kernel_rfl) (by kernel_rfl) (by kernel_rfl) rfl (by exact fun _ _ _ h => h) (by rfl) ?_ (by assumption) ?_
    rotate_left
    · intro w hSw; (try dsimp only at hSw); go_simp; try (with_reducible rfl)
    try simp only [Act.put, List.setIfInBounds_toArray, List.set_cons_zero, List.set_cons_succ]
    refine wpAnyH_done (by kernel_rfl) ?_ _
    clear hHeld
    go_wp2
    go_ret
    exact ⟨ret_b HE.out.symm, d.out⟩
end Go.Proofs.YtidhmgboknffkaaDoor
namespace Go.Proofs.YtidhmgboknffkaaDoor
set_option linter.unusedVariables false
/-- The mask of the first k numbers. -/
def maskTo (l : List Int) (k : Nat) : Nat := (l.take k).foldl (fun m x => m ||| 2 ^ x.toNat) 0
theorem maskTo_zero (l : List Int) : maskTo l 0 = 0 := by simp [maskTo]
theorem maskTo_step {l : List Int} {k : Nat} (hk : k < l.length) : maskTo l (k + 1) = maskTo l k ||| 2 ^ (l.getD k 0).toNat := by
  unfold maskTo
  have e : l.getD k 0 = l[k] := by simp [List.getD, hk]
  rw [e, List.take_succ_eq_append_getElem hk, List.foldl_append]
  rfl
theorem setTo_pred {l : List Int} {k : Nat} (h : SetTo l (k + 1)) : SetTo l k := ⟨fun i hi => h.1 i (by omega), fun i hi => h.2 i (by omega)⟩
theorem bit_maskTo {l : List Int} : ∀ {k : Nat}, k ≤ l.length → SetTo l k → ∀ i : Nat, (maskTo l k).testBit i = true ↔ ∃ j, j < k ∧ l.getD j 0 = (i : Int) := by
  intro k
  induction k with
  | zero => intro _ _ i; simp [maskTo_zero]
  | succ k ih =>
    intro hk hs i
    rw [maskTo_step (by omega), Nat.testBit_or, Bool.or_eq_true, ih (by omega) (setTo_pred hs), Nat.testBit_two_pow]
    have h0 := hs.1 k (by omega)
    constructor
    · rintro (⟨j, hj, e⟩ | h)
      · exact ⟨j, by omega, e⟩
      · have := of_decide_eq_true h
        exact ⟨k, by omega, by omega⟩
    · rintro ⟨j, hj, e⟩
      by_cases ej : j = k
      · subst ej; right; rw [decide_eq_true_eq]; omega
      · exact Or.inl ⟨j, by omega, e⟩
theorem maskTo_lt {l : List Int} {k : Nat} (hk : k ≤ l.length) (hs : SetTo l k) (x : Nat) (h : ∀ j, j < k → l.getD j 0 < (x : Int)) : maskTo l k < 2 ^ x := by
  refine Nat.lt_pow_two_of_testBit _ fun i hi => ?_
  rw [Bool.eq_false_iff]
  intro g
  obtain ⟨j, hj, e⟩ := (bit_maskTo hk hs i).1 g
  have := h j hj
  omega
theorem maskTo_lt24 {l : List Int} {k : Nat} (hk : k ≤ l.length) (hs : SetTo l k) : maskTo l k < 16777216 :=
  maskTo_lt hk hs 24 (fun j hj => by have := (hs.1 j hj).2; omega)
theorem maskTo_ge {l : List Int} {k : Nat} (hk : k ≤ l.length) (hs : SetTo l k) {x : Nat} {j : Nat} (hj : j < k) (h : (x : Int) ≤ l.getD j 0) : 2 ^ x ≤ maskTo l k := by
  have h0 := (hs.1 j hj).1
  have := (bit_maskTo hk hs (l.getD j 0).toNat).2 ⟨j, hj, by omega⟩
  exact Nat.le_trans (Nat.pow_le_pow_right (by omega) (by omega)) (Nat.ge_two_pow_of_testBit this)
theorem setTo_mono {l : List Int} {k : Nat} (h : SetTo l k) : ∀ {i j : Nat}, i < j → j < k → l.getD i 0 < l.getD j 0 := by
  intro i j hij
  obtain ⟨d, rfl⟩ : ∃ d, j = i + d + 1 := ⟨j - i - 1, by omega⟩
  clear hij
  induction d with
  | zero => intro hj; exact h.2 i hj
  | succ d ih => intro hj; exact Int.lt_trans (ih (by omega)) (h.2 (i + d + 1) hj)
/-- The bit test of maskOf: no bit from x on, just where x goes on the ascent. -/
theorem maskTo_next {l : List Int} {k : Nat} (hk : k < l.length) (hs : SetTo l k) {x : Nat} (hx : l.getD k 0 = (x : Int)) (hx23 : x ≤ 23) : maskTo l k / 2 ^ x = 0 ↔ SetTo l (k + 1) := by
  rw [Nat.div_eq_zero_iff]
  constructor
  · rintro (h | h)
    · exact absurd h (Nat.ne_of_gt (Nat.two_pow_pos x))
    · refine setTo_step hs (by omega) (by omega) fun h0 => ?_
      apply Int.not_le.1
      intro g
      rw [hx] at g
      have := maskTo_ge (Nat.le_of_lt hk) hs (j := k - 1) (by omega) g
      omega
  · intro h
    right
    refine maskTo_lt (Nat.le_of_lt hk) hs x fun j hj => ?_
    rw [← hx]
    exact setTo_mono h hj (by omega)
/-- The mask of a set, 0 of any other list. -/
def maskL (l : List Int) : Nat := if setB l = true then maskTo l l.length else 0
theorem maskL_yes {l : List Int} (h : SetL l) : maskL l = maskTo l l.length := by unfold maskL; rw [if_pos ((setB_iff l).2 h)]
theorem maskL_no {l : List Int} (h : setB l = false) : maskL l = 0 := by unfold maskL; rw [h]; rfl
theorem maskL_lt (l : List Int) : maskL l < 16777216 := by
  by_cases h : SetL l
  · rw [maskL_yes h]; exact maskTo_lt24 (Nat.le_refl _) ((setTo_all l).2 h)
  · rw [maskL_no (setB_no h)]; omega
theorem bit_maskL {l : List Int} (h : SetL l) (i : Nat) : (maskL l).testBit i = decide ((i : Int) ∈ l) := by
  rw [maskL_yes h, Bool.eq_iff_iff, bit_maskTo (Nat.le_refl _) ((setTo_all l).2 h), decide_eq_true_eq, member_iff]
/-- The members of a mask. -/
def memTo (m : Nat) (k : Nat) : List Int := ((List.range k).filter fun i => m.testBit i).map fun i : Nat => (i : Int)
theorem memTo_yes {m k : Nat} (h : m.testBit k = true) : memTo m (k + 1) = memTo m k ++ [(k : Int)] := by
  unfold memTo
  rw [List.range_succ, List.filter_append, List.map_append]
  simp [h]
theorem memTo_no {m k : Nat} (h : m.testBit k = false) : memTo m (k + 1) = memTo m k := by
  unfold memTo
  rw [List.range_succ, List.filter_append, List.map_append]
  simp [h]
theorem memTo_len (m k : Nat) : (memTo m k).length ≤ k := by
  have := List.length_filter_le (fun i => m.testBit i) (List.range k)
  simpa [memTo] using this
def memL (m : Nat) : List Int := memTo m 24
/-- Two ascending lists with the same members are the same. -/
theorem asc_eq : ∀ {a b : List Int}, a.Pairwise (· < ·) → b.Pairwise (· < ·) → (∀ x, x ∈ a ↔ x ∈ b) → a = b := by
  intro a
  induction a with
  | nil =>
    intro b _ _ h
    cases b with
    | nil => rfl
    | cons y b => exact absurd ((h y).2 (List.mem_cons_self ..)) (by simp)
  | cons x a ih =>
    intro b ha hb h
    cases b with
    | nil => exact absurd ((h x).1 (List.mem_cons_self ..)) (by simp)
    | cons y b =>
      rw [List.pairwise_cons] at ha hb
      have hxy : x = y := by
        rcases List.mem_cons.1 ((h x).1 (List.mem_cons_self ..)) with e | e
        · exact e
        · rcases List.mem_cons.1 ((h y).2 (List.mem_cons_self ..)) with g | g
          · exact g.symm
          · have h1 := hb.1 x e; have h2 := ha.1 y g; omega
      subst hxy
      rw [ih ha.2 hb.2 ?_]
      intro z
      constructor
      · intro hz
        rcases List.mem_cons.1 ((h z).1 (List.mem_cons_of_mem _ hz)) with e | e
        · subst e; exact absurd (ha.1 z hz) (by omega)
        · exact e
      · intro hz
        rcases List.mem_cons.1 ((h z).2 (List.mem_cons_of_mem _ hz)) with e | e
        · subst e; exact absurd (hb.1 z hz) (by omega)
        · exact e
theorem range_asc (f : Int) (k : Nat) : ((List.range k).map fun i : Nat => f + (i : Int)).Pairwise (· < ·) := by
  rw [List.pairwise_iff_getElem]
  intro i j hi hj hij
  simp
  omega
theorem range_asc0 (k : Nat) : ((List.range k).map fun i : Nat => (i : Int)).Pairwise (· < ·) := by
  have := range_asc 0 k
  simpa using this
theorem memTo_asc (m : Nat) (k : Nat) : (memTo m k).Pairwise (· < ·) := by
  have h := range_asc0 k
  rw [List.pairwise_map] at h
  unfold memTo
  rw [List.pairwise_map]
  exact List.Pairwise.filter _ h
theorem set_asc {l : List Int} (h : SetL l) : l.Pairwise (· < ·) := by
  rw [List.pairwise_iff_getElem]
  intro i j hi hj hij
  have := setTo_mono ((setTo_all l).2 h) hij hj
  simpa [List.getD, hi, hj] using this
theorem mem_memTo {m k : Nat} {x : Int} : x ∈ memTo m k ↔ ∃ i : Nat, i < k ∧ m.testBit i = true ∧ x = (i : Int) := by
  unfold memTo
  simp only [List.mem_map, List.mem_filter, List.mem_range]
  constructor
  · rintro ⟨i, ⟨h1, h2⟩, rfl⟩; exact ⟨i, h1, h2, rfl⟩
  · rintro ⟨i, h1, h2, rfl⟩; exact ⟨i, ⟨h1, h2⟩, rfl⟩
theorem set_range {l : List Int} (h : SetL l) {x : Int} (hx : x ∈ l) : 0 ≤ x ∧ x ≤ 23 := by
  obtain ⟨i, hi, rfl⟩ := (member_iff l x).1 hx
  exact h.1 i hi
theorem memL_set {l : List Int} (h : SetL l) : memL (maskL l) = l := by
  refine asc_eq (memTo_asc _ _) (set_asc h) fun x => ?_
  unfold memL
  rw [mem_memTo]
  constructor
  · rintro ⟨i, _, h2, rfl⟩
    rw [bit_maskL h] at h2
    exact of_decide_eq_true h2
  · intro hx
    obtain ⟨h0, h1⟩ := set_range h hx
    exact ⟨x.toNat, by omega, by rw [bit_maskL h, show ((x.toNat : Nat) : Int) = x by omega]; exact decide_eq_true hx, by omega⟩
theorem asc_set {l : List Int} (h : l.Pairwise (· < ·)) (hr : ∀ x, x ∈ l → 0 ≤ x ∧ x ≤ 23) : SetL l := by
  rw [List.pairwise_iff_getElem] at h
  refine ⟨fun i hi => hr _ ((member_iff l _).2 ⟨i, hi, rfl⟩), fun i hi => ?_⟩
  have := h i (i + 1) (by omega) hi (by omega)
  have h2 : i < l.length := by omega
  simpa [List.getD, hi, h2] using this
theorem set_memL (m : Nat) : SetL (memL m) := by
  refine asc_set (memTo_asc _ _) fun x hx => ?_
  obtain ⟨i, hi, _, rfl⟩ := mem_memTo.1 hx
  omega
theorem maskL_memL {m : Nat} (h : m < 16777216) : maskL (memL m) = m := by
  apply Nat.eq_of_testBit_eq
  intro i
  rw [bit_maskL (set_memL m), Bool.eq_iff_iff, decide_eq_true_eq]
  unfold memL
  rw [mem_memTo]
  constructor
  · rintro ⟨j, _, h2, e⟩
    obtain rfl : i = j := by omega
    exact h2
  · intro g
    refine ⟨i, ?_, g, rfl⟩
    apply Nat.lt_of_not_le
    intro h24
    have := Nat.testBit_lt_two_pow (show m < 2 ^ i from Nat.lt_of_lt_of_le (show m < 2 ^ 24 from h) (Nat.pow_le_pow_right (by omega) h24))
    rw [this] at g; exact Bool.noConfusion g
theorem memL_zero : memL 0 = [] := by decide
/-- The masks of two lists, both 0 where one is no set. -/
def maskA (a b : List Int) : Nat := if (setB a && setB b) = true then maskL a else 0
def maskB (a b : List Int) : Nat := if (setB a && setB b) = true then maskL b else 0
theorem filter_set {l : List Int} (h : SetL l) (p : Int → Bool) : SetL (l.filter p) :=
  asc_set ((set_asc h).filter _) fun x hx => set_range h (List.mem_filter.1 hx).1
theorem meet_mask (a b : List Int) : memL (maskA a b &&& maskB a b) = meetL a b := by
  unfold maskA maskB meetL
  cases h : (setB a && setB b) with
  | false => simp only [Bool.false_eq_true, if_false]; decide
  | true =>
    rw [Bool.and_eq_true] at h
    have h1 := (setB_iff a).1 h.1
    have h2 := (setB_iff b).1 h.2
    simp only [if_true]
    refine asc_eq (memTo_asc _ _) ((set_asc h1).filter _) fun x => ?_
    unfold memL
    rw [mem_memTo]
    simp only [Nat.testBit_and, bit_maskL h1, bit_maskL h2, List.mem_filter, Bool.and_eq_true, decide_eq_true_eq]
    constructor
    · rintro ⟨i, hi, g, rfl⟩; exact g
    · intro g
      have := set_range h1 g.1
      refine ⟨x.toNat, by omega, ?_, by omega⟩
      rw [show ((x.toNat : Nat) : Int) = x by omega]
      exact g
end Go.Proofs.YtidhmgboknffkaaDoor
namespace Go.Proofs.YtidhmgboknffkaaDoor
open Go.RowKit
set_option linter.unusedVariables false
theorem nat_u32 (a : Nat) (ha : a < 4294967296) : (BitVec.ofInt 32 (a : Int)).toNat = a := by
  rw [BitVec.ofInt_natCast, BitVec.toNat_ofNat]; exact Nat.mod_eq_of_lt (by omega)
theorem and_u32 (a b : Nat) (ha : a < 4294967296) (hb : b < 4294967296) : bits .and .u32 (a : Int) (b : Int) = ((a &&& b : Nat) : Int) := by
  have hx : a &&& b < 2 ^ 32 := Nat.and_lt_two_pow _ (by omega)
  show IntKind.u32.wrap ((BitVec.ofInt 32 (a : Int) &&& BitVec.ofInt 32 (b : Int)).toNat : Int) = _
  rw [BitVec.toNat_and, nat_u32 a ha, nat_u32 b hb, IntKind.wrap_u32]
  omega
theorem or_u32 (a b : Nat) (ha : a < 4294967296) (hb : b < 4294967296) : bits .or .u32 (a : Int) (b : Int) = ((a ||| b : Nat) : Int) := by
  have hx : a ||| b < 2 ^ 32 := Nat.or_lt_two_pow (by omega) (by omega)
  show IntKind.u32.wrap ((BitVec.ofInt 32 (a : Int) ||| BitVec.ofInt 32 (b : Int)).toNat : Int) = _
  rw [BitVec.toNat_or, nat_u32 a ha, nat_u32 b hb, IntKind.wrap_u32]
  omega
theorem isQuery (x : Int) (w : World) : Calls Tryd.prog 147 #[.int .i64 x] w fun e w' => e = .returned (.bool (decide (0 ≤ x ∧ x ≤ 23))) ∧ w' = w := by
  by_cases h0 : 0 ≤ x
  · by_cases h1 : x ≤ 23
    · rw [decide_eq_true (show 0 ≤ x ∧ x ≤ 23 from ⟨h0, h1⟩)]
      have h2 : x < 24 := by omega
      go_enter Tryd.func147, Tryd.ntmps147
      go_wp2
      go_ret
      exact ⟨rfl, rfl⟩
    · rw [decide_eq_false (show ¬ (0 ≤ x ∧ x ≤ 23) by omega)]
      have h2 : ¬ x < 24 := by omega
      go_enter Tryd.func147, Tryd.ntmps147
      go_wp2
      go_ret
      exact ⟨rfl, rfl⟩
  · rw [decide_eq_false (show ¬ (0 ≤ x ∧ x ≤ 23) by omega)]
    go_enter Tryd.func147, Tryd.ntmps147
    go_wp2
    go_ret
    exact ⟨rfl, rfl⟩
theorem pair_eq {a b : Nat} {x y : Bool} (h1 : a = b) (h2 : x = y) : Ending.returned (.tuple #[.int .u32 (a : Int), .bool x]) = .returned (.tuple #[.int .u32 (b : Int), .bool y]) := by rw [h1, h2]
set_option maxHeartbeats 2000000 in
set_option maxRecDepth 100000 in
theorem implMaskOf (va : Value) (a : List Int) (w : World) (h : Ints w va a) (hn : a.length ≤ 1073741824) :
    Calls Tryd.prog 113 #[va] w fun e w' => e = .returned (.tuple #[.int .u32 (maskL a : Nat), .bool (setB a)]) ∧ Below w.heap.size w w' := by
  obtain ⟨ap, cap, hva⟩ := ints_len h
  have HA := Lib.hid h
  have HN := Lib.hid hn
  clear h hn
  subst hva
  go_enter Tryd.func113, Tryd.ntmps113
  go_wp2
  go_loopw [4, 9] (fun m i wr => ∃ k : Nat, k ≤ a.length ∧ i = .int .i64 k ∧ Hid (SetTo a k) ∧ m = .int .u32 (maskTo a k : Nat) ∧ wr = w) (fun _ i _ => a.length - (intOf i).toNat)
  case atStart => exact ⟨0, Nat.zero_le _, rfl, Lib.hid ⟨fun i hi => by omega, fun i hi => by omega⟩, by rw [maskTo_zero]; rfl, rfl⟩
  case round =>
    obtain ⟨k, hk, rfl, hset, rfl, rfl⟩ := hrel
    by_cases hlt : k < a.length
    · obtain ⟨b, off, cap', hv, hbl, hc⟩ := ints_cell HA.out (by omega)
      simp only [Value.slice.injEq] at hv
      obtain ⟨rfl, _, rfl⟩ := hv
      have hcell := hc k hlt
      have i1 : (0 : Int) ≤ (k : Int) := by omega
      have i2 : (k : Int) < (a.length : Int) := by omega
      clear hc
      by_cases hr : 0 ≤ a.getD k 0 ∧ a.getD k 0 ≤ 23
      · obtain ⟨x, hx⟩ : ∃ x : Nat, a.getD k 0 = (x : Int) := ⟨(a.getD k 0).toNat, by omega⟩
        have hx23 : x ≤ 23 := by omega
        have HQ := Lib.hid (show decide (0 ≤ (x : Int) ∧ (x : Int) ≤ 23) = true from decide_eq_true (by omega))
        have hnext := maskTo_next hlt hset.out hx hx23
        have HST := Lib.hid (maskTo_step hlt)
        rw [hx] at hcell HST
        have HM0 := Lib.hid (maskTo_lt24 (Nat.le_of_lt hlt) hset.out)
        have hdiv : ((maskTo a k : Nat) : Int) / 2 ^ x = ((maskTo a k / 2 ^ x : Nat) : Int) := by norm_cast
        by_cases hz : maskTo a k / 2 ^ x = 0
        · have HS1 := Lib.hid (hnext.1 hz)
          have HB : ((maskTo a k : Int) / 2 ^ x != 0) = false := by rw [hdiv, hz]; rfl
          have HP : Hid (2 ^ x < 16777216 ∧ ((2 : Int) ^ x % 4294967296 = ((2 ^ x : Nat) : Int))) := by
            have h2 : 2 ^ x < 2 ^ 24 := Nat.pow_lt_pow_right (by omega) (show x < 24 by omega)
            have h3 : (2 : Int) ^ x = ((2 ^ x : Nat) : Int) := by norm_cast
            exact Lib.hid ⟨h2, by rw [h3]; clear h3; generalize 2 ^ x = q at *; omega⟩
          have HK := Lib.hid hlt
          clear hr hnext hx hz hset hk hlt hdiv
          generalize maskTo a k = m at *
          go_wp2_with fail
          refine (isQuery _ _).mono ?_
          rintro e w1 ⟨rfl, rfl⟩
          rw [HQ.out]
          have hn := HN.out
          go_wp2
          go_roundw
          case rel => exact ⟨k + 1, HK.out, by go_num, HS1, by rw [HP.out.2, or_u32 m _ (by have := HM0.out; omega) (by have := HP.out.1; omega), HST.out]; rfl, by first | rfl | trivial⟩
          case measure => have := HK.out; simp [intOf]; omega
        · have HF := Lib.hid (setB_no (l := a) (fun g => hz (hnext.2 ⟨fun i hi => g.1 i (by omega), fun i hi => g.2 i (by omega)⟩)))
          have HB : ((maskTo a k : Int) / 2 ^ x != 0) = true := by rw [hdiv, bne_iff_ne]; omega
          clear hr hnext hx hz hset hk hlt hdiv
          generalize maskTo a k = m at *
          go_wp2_with fail
          refine (isQuery _ _).mono ?_
          rintro e w1 ⟨rfl, rfl⟩
          rw [HQ.out]
          go_wp2
          go_ret2
          exact ⟨pair_eq (a := 0) (maskL_no HF.out).symm HF.out.symm, Below.refl _ _⟩
      · have HF := Lib.hid (setB_no (not_set_range hlt hr))
        have HQ := Lib.hid (show decide (0 ≤ a.getD k 0 ∧ a.getD k 0 ≤ 23) = false from decide_eq_false hr)
        clear hr hset hk hlt
        generalize maskTo a k = m at *
        generalize a.getD k 0 = x at *
        go_wp2_with fail
        refine (isQuery _ _).mono ?_
        rintro e w1 ⟨rfl, rfl⟩
        rw [HQ.out]
        go_wp2
        go_ret2
        exact ⟨pair_eq (a := 0) (maskL_no HF.out).symm HF.out.symm, Below.refl _ _⟩
    · obtain rfl : k = a.length := by omega
      have HS := Lib.hid ((setTo_all a).1 hset.out)
      have HE := Lib.hid (maskL_yes HS.out)
      clear hset hk hlt
      generalize maskTo a a.length = m at *
      go_wp2
      go_ret2
      exact ⟨pair_eq HE.out.symm ((setB_iff a).2 HS.out).symm, Below.refl _ _⟩
end Go.Proofs.YtidhmgboknffkaaDoor
namespace Go.Proofs.YtidhmgboknffkaaDoor
set_option linter.unusedVariables false
theorem popAux_split : ∀ (a b x : Nat), Lib.popAux (a + b) x = Lib.popAux a x + Lib.popAux b (x / 2 ^ a)
  | 0, b, x => by simp [Lib.popAux]
  | a + 1, b, x => by
    rw [show a + 1 + b = (a + b) + 1 by omega]
    show x % 2 + Lib.popAux (a + b) (x / 2) = x % 2 + Lib.popAux a (x / 2) + Lib.popAux b (x / 2 ^ (a + 1))
    rw [popAux_split a b (x / 2), Nat.div_div_eq_div_mul, Nat.pow_succ, Nat.mul_comm (2 ^ a) 2, Nat.add_assoc]
theorem popAux_zero : ∀ a : Nat, Lib.popAux a 0 = 0
  | 0 => rfl
  | a + 1 => by
    show 0 % 2 + Lib.popAux a (0 / 2) = 0
    simp [popAux_zero a]
theorem popAux_mod : ∀ (a x : Nat), Lib.popAux a (x % 2 ^ a) = Lib.popAux a x
  | 0, x => rfl
  | a + 1, x => by
    show x % 2 ^ (a + 1) % 2 + Lib.popAux a (x % 2 ^ (a + 1) / 2) = x % 2 + Lib.popAux a (x / 2)
    have h1 : x % 2 ^ (a + 1) % 2 = x % 2 := Nat.mod_mod_of_dvd x ⟨2 ^ a, by rw [Nat.pow_succ, Nat.mul_comm]⟩
    have h2 : x % 2 ^ (a + 1) / 2 = x / 2 % 2 ^ a := by
      rw [Nat.pow_succ, Nat.mul_comm, Nat.mod_mul_right_div_self]
    rw [h1, h2, popAux_mod a (x / 2)]
theorem popAux_count : ∀ (f x : Nat), Lib.popAux f x = ((List.range f).filter fun i => x.testBit i).length
  | 0, x => rfl
  | f + 1, x => by
    show x % 2 + Lib.popAux f (x / 2) = _
    rw [List.range_succ_eq_map, List.filter_cons, List.filter_map, popAux_count f (x / 2)]
    have e : (List.filter ((fun i => x.testBit i) ∘ Nat.succ) (List.range f)) = List.filter (fun i => (x / 2).testBit i) (List.range f) := by
      apply List.filter_congr
      intro i _
      show x.testBit (i + 1) = (x / 2).testBit i
      rw [Nat.testBit_add_one]
    rw [e]
    rcases Nat.mod_two_eq_zero_or_one x with h | h
    · have : x.testBit 0 = false := by simp [Nat.testBit_zero, h]
      rw [this]; simp [h]
    · have : x.testBit 0 = true := by simp [Nat.testBit_zero, h]
      rw [this]; simp [h]; omega
theorem ones_byte {y : Nat} (h : y < 256) : Lib.onesCount y = Lib.popAux 8 y := by
  unfold Lib.onesCount
  rw [show (64 : Nat) = 8 + 56 from rfl, popAux_split, Nat.div_eq_of_lt h, popAux_zero, Nat.add_zero]
theorem memL_count (m : Nat) : (memL m).length = Lib.onesCount (m / 65536 % 256) + Lib.onesCount (m / 256 % 256) + Lib.onesCount (m % 256) := by
  rw [ones_byte (Nat.mod_lt _ (by omega)), ones_byte (Nat.mod_lt _ (by omega)), ones_byte (Nat.mod_lt _ (by omega))]
  have e : (memL m).length = Lib.popAux 24 m := by
    rw [popAux_count]; simp [memL, memTo]
  rw [e, show (24 : Nat) = 8 + (8 + 8) from rfl, popAux_split, popAux_split, Nat.div_div_eq_div_mul]
  rw [show (256 : Nat) = 2 ^ 8 from rfl, popAux_mod, popAux_mod, popAux_mod, show (2 : Nat) ^ 8 * 2 ^ 8 = 65536 from rfl]
  omega
/-- How many members. -/
def cntM (m : Nat) : Nat := (memL m).length
theorem memL_le (m : Nat) : (memL m).length ≤ 24 := memTo_len m 24
end Go.Proofs.YtidhmgboknffkaaDoor
namespace Go.Proofs.YtidhmgboknffkaaDoor
open Go.RowKit
set_option linter.unusedVariables false
set_option linter.unusedSimpArgs false
/-- The spans x tell the values of F from 0 to n - 1. -/
structure Tells (F : Int → List Int) (n : Nat) (x : List SpanD) : Prop where
  pos : 0 < x.length
  first : (x.getD 0 p0D).1 = 0
  last : (x.getD (x.length - 1) p0D).2.1 = (n : Int) - 1
  order : ∀ i, i < x.length → (x.getD i p0D).1 ≤ (x.getD i p0D).2.1
  next : ∀ i, i + 1 < x.length → (x.getD (i + 1) p0D).1 = (x.getD i p0D).2.1 + 1
  differ : ∀ i, i + 1 < x.length → ¬ (x.getD (i + 1) p0D).2.2 = (x.getD i p0D).2.2
  same : ∀ i, i < x.length → ∀ v, (x.getD i p0D).1 ≤ v → v ≤ (x.getD i p0D).2.1 → F v = (x.getD i p0D).2.2
theorem getD_set_p {l : List SpanD} {j : Nat} (hj : j < l.length) (r : SpanD) : (l.set j r).getD j p0D = r := by simp [List.getD, hj]
theorem getD_set_p_ne {l : List SpanD} {i j : Nat} (h : i ≠ j) (r : SpanD) : (l.set j r).getD i p0D = l.getD i p0D := by
  simp only [List.getD]; rw [List.getElem?_set_ne (Ne.symm h)]
theorem getD_app_p {l : List SpanD} {i : Nat} (h : i < l.length) (r : SpanD) : (l ++ [r]).getD i p0D = l.getD i p0D := by simp [List.getD, List.getElem?_append_left h]
theorem getD_new_p (l : List SpanD) (r : SpanD) : (l ++ [r]).getD l.length p0D = r := by simp [List.getD]
theorem tells_one (F : Int → List Int) : Tells F 1 (stepP [] 0 (F 0)) := by
  have e : stepP [] 0 (F 0) = [(0, 0, F 0)] := by simp [stepP]
  rw [e]
  refine ⟨by simp, rfl, rfl, ?_, ?_, ?_, ?_⟩
  · intro i hi; simp at hi; subst hi; exact Int.le_refl _
  · intro i hi; simp at hi
  · intro i hi; simp at hi
  · intro i hi v h1 h2
    simp at hi; subst hi
    have : v = 0 := by
      have h1' : (0 : Int) ≤ v := h1
      have h2' : v ≤ (0 : Int) := h2
      omega
    subst this; rfl
theorem tells_step {F : Int → List Int} {n : Nat} {x : List SpanD} (h : Tells F n x) : Tells F (n + 1) (stepP x (n : Int) (F n)) := by
  have hp := h.pos
  have hlast := h.last
  have hord := h.order (x.length - 1) (by omega)
  unfold stepP
  split
  · next c =>
    obtain ⟨_, c⟩ := c
    have hl : x.length - 1 < x.length := by omega
    have key : ∀ i, i < x.length → (((x.set (x.length - 1) ((x.getD (x.length - 1) p0D).1, (n : Int), (x.getD (x.length - 1) p0D).2.2)).getD i p0D).1 = (x.getD i p0D).1 ∧
        ((x.set (x.length - 1) ((x.getD (x.length - 1) p0D).1, (n : Int), (x.getD (x.length - 1) p0D).2.2)).getD i p0D).2.2 = (x.getD i p0D).2.2 ∧
        ((x.set (x.length - 1) ((x.getD (x.length - 1) p0D).1, (n : Int), (x.getD (x.length - 1) p0D).2.2)).getD i p0D).2.1 = if i = x.length - 1 then (n : Int) else (x.getD i p0D).2.1) := by
      intro i hi
      by_cases e : i = x.length - 1
      · subst e
        rw [getD_set_p hl]; simp
      · rw [getD_set_p_ne e]; simp [e]
    generalize hy : x.set (x.length - 1) ((x.getD (x.length - 1) p0D).1, (n : Int), (x.getD (x.length - 1) p0D).2.2) = y at key
    have hyl : y.length = x.length := by rw [← hy, List.length_set]
    refine ⟨by omega, ?_, ?_, ?_, ?_, ?_, ?_⟩
    · rw [(key 0 hp).1]; exact h.first
    · rw [hyl, (key _ hl).2.2, if_pos rfl]; omega
    · intro i hi
      rw [hyl] at hi
      rw [(key i hi).1, (key i hi).2.2]
      split
      · next e => subst e; omega
      · exact h.order i hi
    · intro i hi
      rw [hyl] at hi
      rw [(key (i + 1) hi).1, (key i (by omega)).2.2, if_neg (by omega)]
      exact h.next i hi
    · intro i hi
      rw [hyl] at hi
      rw [(key (i + 1) hi).2.1, (key i (by omega)).2.1]
      exact h.differ i hi
    · intro i hi v h1 h2
      rw [hyl] at hi
      rw [(key i hi).1] at h1
      rw [(key i hi).2.2] at h2
      rw [(key i hi).2.1]
      split at h2
      · next e =>
        by_cases ev : v = (n : Int)
        · subst ev; rw [e]; exact c.symm
        · exact h.same i hi v h1 (by rw [e, hlast]; omega)
      · exact h.same i hi v h1 h2
  · next c =>
    have c' : ¬ (x.getD (x.length - 1) p0D).2.2 = F n := fun g => c ⟨hp, g⟩
    have hyl : (x ++ [((n : Int), (n : Int), F n)]).length = x.length + 1 := by simp
    refine ⟨by omega, ?_, ?_, ?_, ?_, ?_, ?_⟩
    · rw [getD_app_p hp]; exact h.first
    · rw [hyl, Nat.add_sub_cancel, getD_new_p]; simp
    · intro i hi
      rw [hyl] at hi
      by_cases e : i = x.length
      · subst e; rw [getD_new_p]; exact Int.le_refl _
      · rw [getD_app_p (by omega)]; exact h.order i (by omega)
    · intro i hi
      rw [hyl] at hi
      by_cases e : i + 1 = x.length
      · rw [e, getD_new_p, getD_app_p (by omega), show i = x.length - 1 by omega, hlast]
        show (n : Int) = _
        omega
      · rw [getD_app_p (by omega), getD_app_p (by omega)]; exact h.next i (by omega)
    · intro i hi
      rw [hyl] at hi
      by_cases e : i + 1 = x.length
      · rw [e, getD_new_p, getD_app_p (by omega), show i = x.length - 1 by omega]
        exact fun g => c' g.symm
      · rw [getD_app_p (by omega), getD_app_p (by omega)]; exact h.differ i (by omega)
    · intro i hi v h1 h2
      rw [hyl] at hi
      by_cases e : i = x.length
      · subst e
        rw [getD_new_p] at h1 h2 ⊢
        have h1' : (n : Int) ≤ v := h1
        have h2' : v ≤ (n : Int) := h2
        have : v = (n : Int) := by omega
        subst this; rfl
      · rw [getD_app_p (by omega)] at h1 h2 ⊢
        exact h.same i (by omega) v h1 h2
theorem tells_all (F : Int → List Int) : ∀ n, Tells F (n + 1) (spansTo F (n + 1))
  | 0 => tells_one F
  | n + 1 => tells_step (tells_all F n)
theorem tells_find {F : Int → List Int} {n : Nat} {x : List SpanD} (h : Tells F n x) {v : Int} (h0 : 0 ≤ v) (h1 : v ≤ (n : Int) - 1) : findL x v = F v := by
  have ex : ∀ m, m ≤ x.length → (∀ j, j < m → (x.getD j p0D).2.1 < v) ∨ ∃ k, k < x.length ∧ v ≤ (x.getD k p0D).2.1 ∧ ∀ j, j < k → (x.getD j p0D).2.1 < v := by
    intro m
    induction m with
    | zero => intro _; exact Or.inl (fun j hj => by omega)
    | succ m ih =>
      intro hm
      rcases ih (by omega) with g | g
      · by_cases c : v ≤ (x.getD m p0D).2.1
        · exact Or.inr ⟨m, by omega, c, g⟩
        · refine Or.inl (fun j hj => ?_)
          by_cases e : j = m
          · subst e; omega
          · exact g j (by omega)
      · exact Or.inr g
  have hp := h.pos
  rcases ex x.length (Nat.le_refl _) with g | ⟨k, hk, hle, hlow⟩
  · have := g (x.length - 1) (by omega)
    have := h.last
    omega
  · have hfrom : (x.getD k p0D).1 ≤ v := by
      by_cases e : k = 0
      · subst e; rw [h.first]; exact h0
      · have h2 := h.next (k - 1) (by omega)
        have h3 := hlow (k - 1) (by omega)
        rw [show k - 1 + 1 = k by omega] at h2
        omega
    rw [find_at hk (fun j hj => by have := hlow j hj; unfold hitB; rw [decide_eq_false (by omega)]) (by unfold hitB; rw [decide_eq_true ⟨hfrom, hle⟩])]
    exact (h.same k hk v hfrom hle).symm
end Go.Proofs.YtidhmgboknffkaaDoor
namespace Go.Proofs.YtidhmgboknffkaaDoor
open Go.RowKit
set_option linter.unusedVariables false
set_option linter.unusedSimpArgs false
theorem row_len {r : RowD} (h : rowB r = true) : r.2.length = 3 := by
  unfold rowB at h
  simp only [Bool.and_eq_true, decide_eq_true_eq] at h
  exact h.2.2
end Go.Proofs.YtidhmgboknffkaaDoor
namespace Go.Proofs.YtidhmgboknffkaaDoor
open Go.RowKit
set_option linter.unusedVariables false
set_option linter.unusedSimpArgs false
theorem are_pair {qs : List QD} (h : areQB qs = true) : qs.Pairwise (fun a b => a.1 < b.1) := by
  unfold areQB at h
  rw [Bool.and_eq_true, List.all_eq_true] at h
  have hs : ∀ j, j + 1 < qs.length → (qs.getD j q0D).1 < (qs.getD (j + 1) q0D).1 := by
    intro j hj
    have := h.1 (j + 1) (List.mem_range.2 hj)
    simp only [Bool.and_eq_true, Bool.or_eq_true, decide_eq_true_eq, Nat.add_sub_cancel] at this
    exact this.2.resolve_left (by omega)
  have hm : ∀ d i, i + d + 1 < qs.length → (qs.getD i q0D).1 < (qs.getD (i + d + 1) q0D).1 := by
    intro d
    induction d with
    | zero => intro i hi; exact hs i hi
    | succ d ih => intro i hi; exact Int.lt_trans (ih i (by omega)) (hs (i + d + 1) (by omega))
  rw [List.pairwise_iff_getElem]
  intro i j hi hj hij
  have := hm (j - i - 1) i (by omega)
  have e : i + (j - i - 1) + 1 = j := by omega
  rw [e] at this
  simpa [List.getD, hi, hj] using this
theorem set_ids {qs : List QD} (h : areQB qs = true) (p : QD → Bool) : setB ((qs.filter p).map (·.1)) = true := by
  have hp : ((qs.filter p).map (·.1)).Pairwise (fun a b : Int => a < b) := by
    rw [List.pairwise_map]
    exact (are_pair h).filter p
  rw [List.pairwise_iff_getElem] at hp
  rw [setB_iff]
  refine ⟨fun i hi => ?_, fun i hi => ?_⟩
  · have hm : ((qs.filter p).map (·.1)).getD i 0 ∈ (qs.filter p).map (·.1) := by
      have e : ((qs.filter p).map (·.1)).getD i 0 = ((qs.filter p).map (·.1))[i] := by simp only [List.getD, List.getElem?_eq_getElem hi, Option.getD_some]
      rw [e]; exact List.getElem_mem hi
    obtain ⟨q, hq, e⟩ := List.mem_map.1 hm
    have h1 := areQ_at h (List.mem_filter.1 hq).1
    unfold qB queryB at h1
    simp only [Bool.and_eq_true, decide_eq_true_eq] at h1
    rw [← e]
    exact h1.2.1
  · have h1 := hp i (i + 1) (by omega) hi (by omega)
    have hi' : i < ((qs.filter p).map (·.1)).length := by omega
    simp only [List.getD, List.getElem?_eq_getElem hi, List.getElem?_eq_getElem hi', Option.getD_some]
    exact h1
theorem find_fld {qs : List QD} (h : areQB qs = true) {f v : Int} (hf : 0 ≤ f ∧ f ≤ 2) (hv : 0 ≤ v ∧ v ≤ 99) : findL ((fldTo qs 3).getD f.toNat []) v = (qs.filter (admQ f v)).map (·.1) := by
  rw [fldTo_at qs (show f.toNat < 3 by omega)]
  have e : ((f.toNat : Nat) : Int) = f := by omega
  rw [e]
  have ef : okF f = true := by unfold okF; exact decide_eq_true hf
  have ev : okV v = true := by unfold okV; exact decide_eq_true hv
  unfold spansL
  rw [h, ef]
  simp only [Bool.and_self, if_true]
  rw [tells_find (tells_all (stabL qs f) 99) hv.1 (by omega)]
  unfold stabL
  rw [h, ef, ev]
  simp only [Bool.and_self, if_true]
theorem order_mem {os : List Int} (h : orderB os = true) (f : Int) : f ∈ os ↔ f = 0 ∨ f = 1 ∨ f = 2 := by
  unfold orderB at h
  rw [Bool.and_eq_true, List.all_eq_true, decide_eq_true_eq] at h
  obtain ⟨hl, ha⟩ := h
  match os, hl with
  | [a, b, c], _ =>
    have h0 := ha 0 (List.mem_range.2 (by simp))
    have h1 := ha 1 (List.mem_range.2 (by simp))
    have h2 := ha 2 (List.mem_range.2 (by simp))
    simp at h0 h1 h2
    simp
    omega
theorem row_vals {r : RowD} (h : rowB r = true) (f : Int) (hf : 0 ≤ f ∧ f ≤ 2) : 0 ≤ r.2.getD f.toNat 0 ∧ r.2.getD f.toNat 0 ≤ 99 := by
  unfold rowB at h
  simp only [Bool.and_eq_true, decide_eq_true_eq, List.all_eq_true] at h
  have hl : f.toNat < r.2.length := by omega
  have e : r.2.getD f.toNat 0 = r.2[f.toNat] := by simp [List.getD, hl]
  rw [e]
  exact h.2.1 _ (List.getElem_mem hl)
end Go.Proofs.YtidhmgboknffkaaDoor
namespace Go.Proofs.YtidhmgboknffkaaDoor
open Go.RowKit
set_option linter.unusedVariables false
set_option linter.unusedSimpArgs false
def probeM (s : Int → Nat) : List Int → Nat → Int → Nat × Int
  | [], m, work => (m, work)
  | f :: os, m, work => if m = 0 then (m, work) else probeM s os (m &&& s f) (work + 1 + ((min (cntM m) (cntM (s f)) : Nat) : Int))
theorem cntM_le (m : Nat) : cntM m ≤ 24 := memL_le m
theorem mask_len0 {l : List Int} (h : SetL l) : maskL l = 0 ↔ l.length = 0 := by
  constructor
  · intro e
    have h1 := memL_set h
    rw [e, memL_zero] at h1
    rw [← h1]; rfl
  · intro e
    have e2 : l = [] := List.length_eq_zero_iff.1 e
    subst e2; decide
theorem cnt_mask {l : List Int} (h : SetL l) : cntM (maskL l) = l.length := by unfold cntM; rw [memL_set h]
theorem sets_two {a b : List Int} (ha : SetL a) (hb : SetL b) : (setB a && setB b) = true := by rw [(setB_iff a).2 ha, (setB_iff b).2 hb]; rfl
theorem meet_maskL {a b : List Int} (ha : SetL a) (hb : SetL b) : maskL a &&& maskL b = maskL (meetL a b) := by
  have h := meet_mask a b
  unfold maskA maskB at h
  rw [if_pos (sets_two ha hb), if_pos (sets_two ha hb)] at h
  rw [← h, maskL_memL (Nat.lt_of_le_of_lt Nat.and_le_left (maskL_lt a))]
theorem meet_setL {a b : List Int} (ha : SetL a) (hb : SetL b) : SetL (meetL a b) := by
  unfold meetL
  rw [if_pos (sets_two ha hb)]
  exact filter_set ha _
theorem probeM_is (fs : List (List SpanD)) (vs : List Int) (s : Int → Nat) : ∀ (os : List Int) (set : List Int) (work : Int), SetL set →
    (∀ f ∈ os, SetL (findL (fs.getD f.toNat []) (vs.getD f.toNat 0)) ∧ s f = maskL (findL (fs.getD f.toNat []) (vs.getD f.toNat 0))) →
    probeM s os (maskL set) work = (maskL (probeL fs vs os set work).1, (probeL fs vs os set work).2) ∧ SetL (probeL fs vs os set work).1
  | [], set, work, h, _ => ⟨rfl, h⟩
  | f :: os, set, work, h, ho => by
    obtain ⟨h1, h2⟩ := ho f (List.mem_cons_self ..)
    unfold probeM probeL
    by_cases hz : set.length = 0
    · rw [if_pos ((mask_len0 h).2 hz), if_pos hz]; exact ⟨rfl, h⟩
    · rw [if_neg (fun e => hz ((mask_len0 h).1 e)), if_neg hz, h2, meet_maskL h h1, cnt_mask h, cnt_mask h1]
      exact probeM_is fs vs s os _ _ (meet_setL h h1) (fun g hg => ho g (List.mem_cons_of_mem _ hg))
theorem probeM_range (s : Int → Nat) : ∀ (os : List Int) (m : Nat) (work : Int), m < 16777216 → (probeM s os m work).1 < 16777216 ∧ work ≤ (probeM s os m work).2 ∧ (probeM s os m work).2 ≤ work + 25 * (os.length : Int)
  | [], m, work, h => ⟨h, Int.le_refl _, by simp [probeM]⟩
  | f :: os, m, work, h => by
    unfold probeM
    split
    · exact ⟨h, Int.le_refl _, by simp; omega⟩
    · have h1 := probeM_range s os (m &&& s f) (work + 1 + ((min (cntM m) (cntM (s f)) : Nat) : Int)) (Nat.lt_of_le_of_lt Nat.and_le_left h)
      have h2 := cntM_le m
      have h3 : min (cntM m) (cntM (s f)) ≤ 24 := Nat.le_trans (Nat.min_le_left _ _) h2
      rw [List.length_cons]
      refine ⟨h1.1, by omega, ?_⟩
      have := h1.2.2
      rw [show ((os.length + 1 : Nat) : Int) = (os.length : Int) + 1 from rfl, Int.mul_add, Int.mul_one]
      omega
theorem allL_set {qs : List QD} (h : areQB qs = true) : SetL (allL qs) := by
  have h1 := set_ids h (fun _ => true)
  rw [List.filter_eq_self.2 (fun _ _ => rfl)] at h1
  exact (setB_iff _).1 h1
theorem find_setL {qs : List QD} (h : areQB qs = true) {f v : Int} (hf : 0 ≤ f ∧ f ≤ 2) (hv : 0 ≤ v ∧ v ≤ 99) : SetL (findL ((fldTo qs 3).getD f.toNat []) v) := by
  rw [find_fld h hf hv]
  exact (setB_iff _).1 (set_ids h _)
/-- The mask of a field's set. -/
def setM (fs : List (List SpanD)) (vs : List Int) (f : Nat) : Nat := maskL (findL (fs.getD f []) (vs.getD f 0))
theorem setM_lt (fs : List (List SpanD)) (vs : List Int) (f : Nat) : setM fs vs f < 16777216 := maskL_lt _
def pick3 (a b c : Nat) (f : Int) : Nat := if f = 0 then a else if f = 1 then b else c
theorem probe_key {qs : List QD} {fs : List (List SpanD)} {r : RowD} {os : List Int} (hx : isIndexB qs fs = true) (hr : rowB r = true) (ho : orderB os = true) (work : Int) :
    probeM (pick3 (setM fs r.2 0) (setM fs r.2 1) (setM fs r.2 2)) os (maskL (allL qs)) work = (maskL (probeL fs r.2 os (allL qs) work).1, (probeL fs r.2 os (allL qs) work).2) ∧ SetL (probeL fs r.2 os (allL qs) work).1 := by
  obtain ⟨h1, rfl⟩ := idx_iff hx
  refine probeM_is _ _ _ os _ work (allL_set h1) (fun f hf => ?_)
  have h2 := (order_mem ho f).1 hf
  have h3 : 0 ≤ f ∧ f ≤ 2 := by omega
  refine ⟨find_setL h1 h3 (row_vals hr f h3), ?_⟩
  rcases h2 with rfl | rfl | rfl <;> rfl
/-- The work at the sets of a row. -/
def workK (all : Nat) (os : List Int) (a b c : Nat) : Int := (probeM (pick3 a b c) os all 0).2
theorem workK_range {all : Nat} (h : all < 16777216) {os : List Int} (ho : os.length = 3) (a b c : Nat) : 0 ≤ workK all os a b c ∧ workK all os a b c ≤ 75 := by
  have := probeM_range (pick3 a b c) os all 0 h
  rw [ho] at this
  unfold workK
  omega
theorem workB_key {qs : List QD} {fs : List (List SpanD)} {r : RowD} {os : List Int} (hx : isIndexB qs fs = true) (hr : rowB r = true) (ho : orderB os = true) :
    workB qs fs os r = workK (maskL (allL qs)) os (setM fs r.2 0) (setM fs r.2 1) (setM fs r.2 2) := by
  unfold workB workK
  rw [hr, if_pos rfl, (probe_key hx hr ho 0).1]
theorem mworkB_no {qs : List QD} {fs : List (List SpanD)} {r : RowD} {os : List Int} (hr : rowB r = false) : workB qs fs os r = 0 := by unfold workB; rw [hr]; rfl
theorem work_sum {qs : List QD} {fs : List (List SpanD)} {os : List Int} (hx : isIndexB qs fs = true) (ho : orderB os = true) : ∀ rs : List RowD,
    (rs.map (workB qs fs os)).sum = ((rs.filter rowB).map fun r => workK (maskL (allL qs)) os (setM fs r.2 0) (setM fs r.2 1) (setM fs r.2 2)).sum
  | [] => rfl
  | r :: rs => by
    rw [List.map_cons, List.sum_cons, work_sum hx ho rs, List.filter_cons]
    cases hr : rowB r with
    | true => rw [if_pos rfl, List.map_cons, List.sum_cons, workB_key hx hr ho]
    | false => rw [if_neg (by decide), mworkB_no hr, Int.zero_add]
theorem mworkL_yes {qs : List QD} {fs : List (List SpanD)} {rs : List RowD} {os : List Int} (hx : isIndexB qs fs = true) (ho : orderB os = true) :
    workL qs fs rs os = ((rs.filter rowB).map fun r => workK (maskL (allL qs)) os (setM fs r.2 0) (setM fs r.2 1) (setM fs r.2 2)).sum := by
  unfold workL
  rw [hx, ho, Bool.and_self, if_pos rfl, work_sum hx ho]
theorem mworkL_no {qs : List QD} {fs : List (List SpanD)} {rs : List RowD} {os : List Int} (h : (isIndexB qs fs && orderB os) = false) : workL qs fs rs os = 0 := by
  unfold workL; rw [h]; rfl
theorem order_len {os : List Int} (h : orderB os = true) : os.length = 3 := by
  unfold orderB at h
  rw [Bool.and_eq_true, decide_eq_true_eq] at h
  exact h.1
theorem order_in {os : List Int} : orderB os = true ↔ os ∈ ordersL := by
  constructor
  · intro h
    have hl := order_len h
    have hm := order_mem h
    match os, hl with
    | [a, b, c], _ =>
      have h2 := h
      unfold orderB at h2
      rw [Bool.and_eq_true, List.all_eq_true, decide_eq_true_eq] at h2
      have e0 := h2.2 0 (List.mem_range.2 (by simp))
      have e1 := h2.2 1 (List.mem_range.2 (by simp))
      have e2 := h2.2 2 (List.mem_range.2 (by simp))
      simp at e0 e1 e2
      have ha : a = 0 ∨ a = 1 ∨ a = 2 := by omega
      have hb : b = 0 ∨ b = 1 ∨ b = 2 := by omega
      have hc : c = 0 ∨ c = 1 ∨ c = 2 := by omega
      rcases ha with rfl | rfl | rfl <;> rcases hb with rfl | rfl | rfl <;> rcases hc with rfl | rfl | rfl <;> simp_all [ordersL]
  · intro h
    simp only [ordersL, List.mem_cons, List.not_mem_nil, or_false] at h
    rcases h with rfl | rfl | rfl | rfl | rfl | rfl <;> decide
end Go.Proofs.YtidhmgboknffkaaDoor
namespace Go.Proofs.YtidhmgboknffkaaDoor
open Go.RowKit
set_option linter.unusedVariables false
set_option linter.unusedSimpArgs false
theorem Tryd.info1_SpanS : (Tryd.prog.info? 77).map (·.size) = some 1 := by kernel_rfl
/-- The three lists of spans of a checked index are read. -/
def CI (w : World) (fs : List (List SpanD)) (s0 s1 s2 : Value) : Prop := SlR tSpan w s0 (fs.getD 0 []) ∧ SlR tSpan w s1 (fs.getD 1 []) ∧ SlR tSpan w s2 (fs.getD 2 [])
theorem ci_below {W w : World} {fs : List (List SpanD)} {s0 s1 s2 : Value} (h : CI W fs s0 s1 s2) (hb : Below W.heap.size W w) : CI w fs s0 s1 s2 :=
  ⟨slR_below tSpan_law h.1 hb, slR_below tSpan_law h.2.1 hb, slR_below tSpan_law h.2.2 hb⟩
abbrev ciV (m : Nat) (s0 s1 s2 : Value) : Value := .agg #[.int .u32 (m : Int), s0, s1, s2]
theorem three_at {w : World} {v : Value} {fs : List (List SpanD)} (h : SlR tSpanS w v fs) (hl : fs.length = 3) :
    ∃ (b off cap : Nat) (s0 s1 s2 : Value), v = .slice (some ⟨b, off, none⟩) 3 cap ∧ b < w.heap.size ∧ w.cell? ⟨b, off, none⟩ = some s0 ∧ w.cell? ⟨b, off + 1, none⟩ = some s1 ∧ w.cell? ⟨b, off + 2, none⟩ = some s2 ∧ CI w fs s0 s1 s2 := by
  have one : ∀ k, k < 3 → ∃ (b off cap : Nat) (s : Value), v = .slice (some ⟨b, off, none⟩) 3 cap ∧ b < w.heap.size ∧ w.cell? ⟨b, off + k, none⟩ = some s ∧ SlR tSpan w s (fs.getD k []) := by
    intro k hk
    obtain ⟨b, off, cap, cs, hv, hb, hcs, hR⟩ := slR_at h (k := k) (by omega)
    obtain ⟨u, rfl, hU⟩ := hR
    have p0 : w.cell? ⟨b, off + k, none⟩ = some u := by have := hcs 0 Nat.one_pos; rw [show tSpanS.n = 1 from rfl, Nat.mul_one, Nat.add_zero] at this; exact this
    exact ⟨b, off, cap, u, by rw [hv, hl], hb, p0, hU⟩
  obtain ⟨b, off, cap, s0, hv, hb, c0, r0⟩ := one 0 (by omega)
  obtain ⟨b1, off1, cap1, s1, hv1, _, c1, r1⟩ := one 1 (by omega)
  obtain ⟨b2, off2, cap2, s2, hv2, _, c2, r2⟩ := one 2 (by omega)
  rw [hv] at hv1 hv2
  simp only [Value.slice.injEq, Option.some.injEq, Addr.mk.injEq] at hv1 hv2
  obtain ⟨⟨rfl, rfl, _⟩, _⟩ := hv1
  obtain ⟨⟨rfl, rfl, _⟩, _⟩ := hv2
  exact ⟨b, off, cap, s0, s1, s2, hv, hb, c0, c1, c2, r0, r1, r2⟩
theorem slice_one {w : World} {v : Value} {xs : List SpanD} (h : SlR tSpan w v xs) : v.oneCell' = true := by
  obtain ⟨a, cap, rfl⟩ := slR_len h
  rfl
theorem splice_ci (a x y z s0 s1 s2 : Value) : splice [a, x, y, z] 1 [s0, s1, s2] = [a, s0, s1, s2] := rfl
theorem ids_to {qs : List QD} {k : Nat} (hk : k < qs.length) : maskTo (allL qs) (k + 1) = maskTo (allL qs) k ||| 2 ^ ((qs.getD k q0D).1).toNat := by
  have h : k < (allL qs).length := by simpa [allL] using hk
  rw [maskTo_step h]
  have e : (allL qs).getD k 0 = (qs.getD k q0D).1 := by simp [allL, List.getD, hk]
  rw [e]
theorem ids_range {qs : List QD} (h : areQB qs = true) {k : Nat} (hk : k < qs.length) : 0 ≤ (qs.getD k q0D).1 ∧ (qs.getD k q0D).1 ≤ 23 := by
  have e : qs.getD k q0D = qs[k] := by simp [List.getD, hk]
  have h1 := areQ_at h (List.getElem_mem hk)
  unfold qB queryB at h1
  simp only [Bool.and_eq_true, decide_eq_true_eq] at h1
  rw [e]
  exact h1.2.1
theorem ids_lt {qs : List QD} (h : areQB qs = true) {k : Nat} (hk : k ≤ qs.length) : maskTo (allL qs) k < 16777216 := by
  have hs := allL_set h
  refine maskTo_lt24 (by simpa [allL] using hk) ⟨fun i hi => hs.1 i (by simp [allL]; omega), fun i hi => hs.2 i (by simp [allL]; omega)⟩
theorem ids_all {qs : List QD} (h : areQB qs = true) : maskTo (allL qs) qs.length = maskL (allL qs) := by
  rw [maskL_yes (allL_set h)]
  simp [allL]
set_option maxHeartbeats 16000000 in
set_option maxRecDepth 100000 in
theorem implCheck_no (qv fv : Value) (qs : List QD) (fs : List (List SpanD)) (w : World) (h1 : SlR tQuery w qv qs) (h2 : SlR tSpanS w fv fs) (hs : zL tQuery qs ≤ 1048576) (hz : zL tSpanS fs ≤ 1048576) (hx : isIndexB qs fs = false) :
    Calls Tryd.prog 58 #[.agg #[qv, fv]] w fun e w' => e = .returned (.tuple #[ciV 0 (.slice none 0 0) (.slice none 0 0) (.slice none 0 0), .bool false]) ∧ Below w.heap.size w w' := by
  have hlen := zL_len hs
  have HX := Lib.hid (fun w g1 g2 => implIsIndex qv fv qs fs w g1 g2 hs hz)
  rw [hx] at HX
  obtain ⟨qa, qc, rfl⟩ := slR_len h1
  obtain ⟨fa, fc, rfl⟩ := slR_len h2
  have H1 := Lib.hid h1; have H2 := Lib.hid h2
  have d := Lib.hid (((Below.refl w.heap.size w).alloc (Nat.le_refl _) (.cells #[.slice qa qs.length qc, .slice fa fs.length fc] 27)).alloc (by simp) (.cells #[.int .u32 0, .slice none 0 0, .slice none 0 0, .slice none 0 0] 96))
  have B0 : Hid (((w.alloc (.cells #[.slice qa qs.length qc, .slice fa fs.length fc] 27)).alloc (.cells #[.int .u32 0, .slice none 0 0, .slice none 0 0, .slice none 0 0] 96)).heap[w.heap.size]? = some (.cells #[.slice qa qs.length qc, .slice fa fs.length fc] 27 (0, 0))) := Lib.hid (by rw [Below.heap_alloc _ _ _ (by simp)]; exact heap_alloc_new w _)
  have B1 : Hid (((w.alloc (.cells #[.slice qa qs.length qc, .slice fa fs.length fc] 27)).alloc (.cells #[.int .u32 0, .slice none 0 0, .slice none 0 0, .slice none 0 0] 96)).heap[(w.heap.size + 1)]? = some (.cells #[.int .u32 0, .slice none 0 0, .slice none 0 0, .slice none 0 0] 96 (0, 0))) := Lib.hid (by
    have := heap_alloc_new (w.alloc (.cells #[.slice qa qs.length qc, .slice fa fs.length fc] 27)) (.cells #[.int .u32 0, .slice none 0 0, .slice none 0 0, .slice none 0 0] 96)
    simpa only [World.size_alloc] using this)
  have Y1 : Hid (w.heap.size + 1 < ((w.alloc (.cells #[.slice qa qs.length qc, .slice fa fs.length fc] 27)).alloc (.cells #[.int .u32 0, .slice none 0 0, .slice none 0 0, .slice none 0 0] 96)).heap.size) := Lib.hid (by simp)
  clear h1 h2 hs hz hx
  go_enter Tryd.func58, Tryd.ntmps58
  go_wp2_with fail
  generalize ((w.alloc (.cells #[.slice qa qs.length qc, .slice fa fs.length fc] 27)).alloc (.cells #[.int .u32 0, .slice none 0 0, .slice none 0 0, .slice none 0 0] 96)) = W at *
  refine (HX.out W (slR_below tQuery_law H1.out d.out) (slR_below tSpanS_law H2.out d.out)).mono ?_
  rintro e w1 ⟨rfl, c1⟩
  replace B0 := Lib.hid ((c1.block w.heap.size (Array.getElem?_eq_some_iff.1 B0.out).1).trans B0.out)
  replace B1 := Lib.hid ((c1.block (w.heap.size + 1) (Array.getElem?_eq_some_iff.1 B1.out).1).trans B1.out)
  replace d := Lib.hid (d.out.trans (c1.mono d.out.size))
  have Z_w1 := Lib.hid (show W.heap.size ≤ w1.heap.size from c1.size)
  clear c1
  have p_B1_0 := (cell_of_row w1 _ 0 _ _ _ B1.out).trans (show _ = some (Value.int .u32 0) from rfl)
  have p_B1_1 := (cell_of_row w1 _ 1 _ _ _ B1.out).trans (show _ = some (Value.slice none 0 0) from rfl)
  have p_B1_2 := (cell_of_row w1 _ 2 _ _ _ B1.out).trans (show _ = some (Value.slice none 0 0) from rfl)
  have p_B1_3 := (cell_of_row w1 _ 3 _ _ _ B1.out).trans (show _ = some (Value.slice none 0 0) from rfl)
  have f_B1_0 := frozen_of_row w1 _ 0 _ _ B1.out
  have f_B1_1 := frozen_of_row w1 _ 1 _ _ B1.out
  have f_B1_2 := frozen_of_row w1 _ 2 _ _ B1.out
  have f_B1_3 := frozen_of_row w1 _ 3 _ _ B1.out
  have e1 := cell_of_row w1 (w.heap.size + 1) 0 _ _ _ B1.out
  clear e1
  go_wp2
  have D := Lib.hid (((((d.out.setCell (p := ⟨w.heap.size + 1, 0, none⟩) (by simp) (.int .u32 0)).setCell (p := ⟨w.heap.size + 1, 1, none⟩) (by simp) (.slice none 0 0)).setCell (p := ⟨w.heap.size + 1, 2, none⟩) (by simp) (.slice none 0 0)).setCell (p := ⟨w.heap.size + 1, 3, none⟩) (by simp) (.slice none 0 0)))
  have r := heap_setCell_same _ (w.heap.size + 1) 3 _ _ (.slice none 0 0) (heap_setCell_same _ (w.heap.size + 1) 2 _ _ (.slice none 0 0) (heap_setCell_same _ (w.heap.size + 1) 1 _ _ (.slice none 0 0) (heap_setCell_same w1 (w.heap.size + 1) 0 _ _ (.int .u32 0) B1.out)))
  simp at r
  have e0 := (cell_of_row _ (w.heap.size + 1) 0 _ _ _ r).trans (show _ = some (Value.int .u32 0) from rfl)
  have e1 := (cell_of_row _ (w.heap.size + 1) 1 _ _ _ r).trans (show _ = some (Value.slice none 0 0) from rfl)
  have e2 := (cell_of_row _ (w.heap.size + 1) 2 _ _ _ r).trans (show _ = some (Value.slice none 0 0) from rfl)
  have e3 := (cell_of_row _ (w.heap.size + 1) 3 _ _ _ r).trans (show _ = some (Value.slice none 0 0) from rfl)
  clear r
  refine bodyPost_ret (v := .tuple #[ciV 0 (.slice none 0 0) (.slice none 0 0) (.slice none 0 0), .bool false]) ?_ rfl ⟨rfl, D.out⟩
  simp [results, Tryd.f58, go_sem, e0, e1, e2, e3]
set_option maxHeartbeats 16000000 in
set_option maxRecDepth 100000 in
theorem implCheck_yes (qv fv : Value) (qs : List QD) (fs : List (List SpanD)) (w : World) (h1 : SlR tQuery w qv qs) (h2 : SlR tSpanS w fv fs) (hs : zL tQuery qs ≤ 1048576) (hz : zL tSpanS fs ≤ 1048576) (hx : isIndexB qs fs = true) :
    Calls Tryd.prog 58 #[.agg #[qv, fv]] w fun e w' => ∃ s0 s1 s2, e = .returned (.tuple #[ciV (maskL (allL qs)) s0 s1 s2, .bool true]) ∧ CI w' fs s0 s1 s2 ∧ Below w.heap.size w w' := by
  have HQ := Lib.hid (idx_iff hx).1
  have hlen := zL_len hs
  have HX := Lib.hid (fun w g1 g2 => implIsIndex qv fv qs fs w g1 g2 hs hz)
  rw [hx] at HX
  obtain ⟨qa, qc, rfl⟩ := slR_len h1
  have hfl : fs.length = 3 := by rw [(idx_iff hx).2, fldTo_len]
  obtain ⟨fb, fo, fc, s0, s1, s2, rfl, hfb, f0, f1, f2, hci⟩ := three_at h2 hfl
  obtain ⟨ta0, cp0, rfl⟩ := slR_len hci.1
  obtain ⟨ta1, cp1, rfl⟩ := slR_len hci.2.1
  obtain ⟨ta2, cp2, rfl⟩ := slR_len hci.2.2
  generalize (fs.getD 0 []).length = ln0 at *
  generalize (fs.getD 1 []).length = ln1 at *
  generalize (fs.getD 2 []).length = ln2 at *
  -- MARK
  have HCI := Lib.hid hci; have HFB := Lib.hid hfb; have F0 := Lib.hid f0; have F1 := Lib.hid f1; have F2 := Lib.hid f2
  clear hci hfb f0 f1 f2 hfl
  have H1 := Lib.hid h1; have H2 := Lib.hid h2
  have d := Lib.hid (((Below.refl w.heap.size w).alloc (Nat.le_refl _) (.cells #[.slice qa qs.length qc, .slice (some ⟨fb, fo, none⟩) 3 fc] 27)).alloc (by simp) (.cells #[.int .u32 0, .slice none 0 0, .slice none 0 0, .slice none 0 0] 96))
  have B0 : Hid (((w.alloc (.cells #[.slice qa qs.length qc, .slice (some ⟨fb, fo, none⟩) 3 fc] 27)).alloc (.cells #[.int .u32 0, .slice none 0 0, .slice none 0 0, .slice none 0 0] 96)).heap[w.heap.size]? = some (.cells #[.slice qa qs.length qc, .slice (some ⟨fb, fo, none⟩) 3 fc] 27 (0, 0))) := Lib.hid (by rw [Below.heap_alloc _ _ _ (by simp)]; exact heap_alloc_new w _)
  have B1 : Hid (((w.alloc (.cells #[.slice qa qs.length qc, .slice (some ⟨fb, fo, none⟩) 3 fc] 27)).alloc (.cells #[.int .u32 0, .slice none 0 0, .slice none 0 0, .slice none 0 0] 96)).heap[(w.heap.size + 1)]? = some (.cells #[.int .u32 0, .slice none 0 0, .slice none 0 0, .slice none 0 0] 96 (0, 0))) := Lib.hid (by
    have := heap_alloc_new (w.alloc (.cells #[.slice qa qs.length qc, .slice (some ⟨fb, fo, none⟩) 3 fc] 27)) (.cells #[.int .u32 0, .slice none 0 0, .slice none 0 0, .slice none 0 0] 96)
    simpa only [World.size_alloc] using this)
  have Y1 : Hid (w.heap.size + 1 < ((w.alloc (.cells #[.slice qa qs.length qc, .slice (some ⟨fb, fo, none⟩) 3 fc] 27)).alloc (.cells #[.int .u32 0, .slice none 0 0, .slice none 0 0, .slice none 0 0] 96)).heap.size) := Lib.hid (by simp)
  clear h1 h2 hs hz hx
  go_enter Tryd.func58, Tryd.ntmps58
  go_wp2_with fail
  generalize ((w.alloc (.cells #[.slice qa qs.length qc, .slice (some ⟨fb, fo, none⟩) 3 fc] 27)).alloc (.cells #[.int .u32 0, .slice none 0 0, .slice none 0 0, .slice none 0 0] 96)) = W at *
  refine (HX.out W (slR_below tQuery_law H1.out d.out) (slR_below tSpanS_law H2.out d.out)).mono ?_
  rintro e w1 ⟨rfl, c1⟩
  have Y2 : Hid (w.heap.size + 1 < w1.heap.size) := Lib.hid (Nat.lt_of_lt_of_le Y1.out c1.size)
  replace B0 := Lib.hid ((c1.block w.heap.size (Array.getElem?_eq_some_iff.1 B0.out).1).trans B0.out)
  replace B1 := Lib.hid ((c1.block (w.heap.size + 1) (Array.getElem?_eq_some_iff.1 B1.out).1).trans B1.out)
  replace d := Lib.hid (d.out.trans (c1.mono d.out.size))
  have Z_w1 := Lib.hid (show W.heap.size ≤ w1.heap.size from c1.size)
  clear c1 Y1
  go_wp2
  have hal : Below w1.heap.size w1 (w1.alloc (.cells #[.int .u32 0, .slice none 0 0, .slice none 0 0, .slice none 0 0] 96)) := (Below.refl _ _).alloc (Nat.le_refl _) _
  have B2 : Hid ((w1.alloc (.cells #[.int .u32 0, .slice none 0 0, .slice none 0 0, .slice none 0 0] 96)).heap[w1.heap.size]? = some (.cells #[.int .u32 0, .slice none 0 0, .slice none 0 0, .slice none 0 0] 96 (0, 0))) := Lib.hid (heap_alloc_new w1 _)
  have Y3 : Hid (w1.heap.size < (w1.alloc (.cells #[.int .u32 0, .slice none 0 0, .slice none 0 0, .slice none 0 0] 96)).heap.size) := Lib.hid (by simp)
  replace B0 := Lib.hid ((hal.block w.heap.size (Array.getElem?_eq_some_iff.1 B0.out).1).trans B0.out)
  replace B1 := Lib.hid ((hal.block (w.heap.size + 1) (Array.getElem?_eq_some_iff.1 B1.out).1).trans B1.out)
  replace d := Lib.hid (d.out.trans (hal.mono d.out.size))
  clear hal
  try clear Z_w1
  generalize w1.alloc (.cells #[.int .u32 0, .slice none 0 0, .slice none 0 0, .slice none 0 0] 96) = W2 at *
  generalize hg : w1.heap.size = g at *
  have HG : Hid (g = w1.heap.size) := Lib.hid hg.symm
  clear hg
  have p_B0_0 := (cell_of_row W2 _ 0 _ _ _ B0.out).trans (show _ = some (Value.slice qa qs.length qc) from rfl)
  have p_B0_1 := (cell_of_row W2 _ 1 _ _ _ B0.out).trans (show _ = some (Value.slice (some ⟨fb, fo, none⟩) 3 fc) from rfl)
  refine wp_region_held_drew (S := fun w' => w'.cell? ⟨w.heap.size, 0, none⟩ = some (Value.slice qa qs.length qc) ∧ w'.cell? ⟨w.heap.size, 1, none⟩ = some (Value.slice (some ⟨fb, fo, none⟩) 3 fc)) (by kernel_rfl) ⟨p_B0_0, p_B0_1⟩ (fun hHeld => ?_)
  clear p_B0_0 p_B0_1
  refine take_runs (i := 0) (v := ?_) (by simp only [List.getElem?_toArray, List.getElem?_cons_succ, List.getElem?_cons_zero]; rfl) (by kernel_rfl) (by kernel_rfl) (by kernel_rfl) rfl (by exact fun _ _ _ h => h) (by rfl) ?_ (by assumption) ?_
  rotate_left
  · intro w hSw; (try dsimp only at hSw); go_simp; try (with_reducible rfl)
  try simp only [Act.put, List.setIfInBounds_toArray, List.set_cons_zero, List.set_cons_succ]
  refine take_runs (i := 1) (v := ?_) (by simp only [List.getElem?_toArray, List.getElem?_cons_succ, List.getElem?_cons_zero]; rfl) (by kernel_rfl) (by kernel_rfl) (by kernel_rfl) rfl (by exact fun _ _ _ h => h) (by rfl) ?_ (by assumption) ?_
  rotate_left
  · intro w hSw; (try dsimp only at hSw); go_simp; try (with_reducible rfl)
  try simp only [Act.put, List.setIfInBounds_toArray, List.set_cons_zero, List.set_cons_succ]
  refine take_runs (i := 2) (v := ?_) (by simp only [List.getElem?_toArray, List.getElem?_cons_succ, List.getElem?_cons_zero]; rfl) (by kernel_rfl) (by kernel_rfl) (by kernel_rfl) rfl (by exact fun _ _ _ h => h) (by rfl) ?_ (by assumption) ?_
  rotate_left
  · intro w hSw; (try dsimp only at hSw); go_simp; try (with_reducible rfl)
  try simp only [Act.put, List.setIfInBounds_toArray, List.set_cons_zero, List.set_cons_succ]
  refine take_runs (i := 3) (v := ?_) (by simp only [List.getElem?_toArray, List.getElem?_cons_succ, List.getElem?_cons_zero]; rfl) (by kernel_rfl) (by kernel_rfl) (by kernel_rfl) rfl (by exact fun _ _ _ h => h) (by rfl) ?_ (by assumption) ?_
  rotate_left
  · intro w hSw; (try dsimp only at hSw); go_simp; try (with_reducible rfl)
  try simp only [Act.put, List.setIfInBounds_toArray, List.set_cons_zero, List.set_cons_succ]
  refine wpAnyH_ready (rs := [4]) (by kernel_rfl) (by simp) ?_
  refine (AllReadyH.cons (o := _) (by simp only [List.getElem?_toArray, List.getElem?_cons_succ, List.getElem?_cons_zero]; rfl) (fun K hK => ?_) AllReadyH.nil)
  have HS3 : ∀ (j : Nat) (v : Value), [(Value.slice ta0 ln0 cp0), (Value.slice ta1 ln1 cp1), (Value.slice ta2 ln2 cp2)][j]? = some v → W2.cell? ((⟨fb, fo, none⟩ : Addr).add j) = some v := by
    intro j v hj
    have hlt : fb < W2.heap.size := by have := HFB.out; have := d.out.size; omega
    rw [show (⟨fb, fo, none⟩ : Addr).add j = ⟨fb, fo + j, none⟩ from by unfold Addr.add; split <;> simp_all]
    match j, hj with
    | 0, hj => simp at hj; subst hj; exact (d.out.cell (p := ⟨fb, fo, none⟩) HFB.out).trans F0.out
    | 1, hj => simp at hj; subst hj; exact (d.out.cell (p := ⟨fb, fo + 1, none⟩) HFB.out).trans F1.out
    | 2, hj => simp at hj; subst hj; exact (d.out.cell (p := ⟨fb, fo + 2, none⟩) HFB.out).trans F2.out
    | j + 3, hj => simp at hj
  refine step_copy_splice rfl (.tmp 12) (.tmp 14) 25 25 rfl 77 Tryd.underlying25 Tryd.info1_SpanS _ _ _ _ _ _ rfl rfl g 1 [.int .u32 0, .slice none 0 0, .slice none 0 0, .slice none 0 0] _ B2.out [(Value.slice ta0 ln0 cp0), (Value.slice ta1 ln1 cp1), (Value.slice ta2 ln2 cp2)] rfl (fun _ => ⟨rfl, _, rfl, fun j v hj => HS3 j v hj⟩) (by simp) (fun u hu => by simp only [List.mem_cons, List.not_mem_nil, or_false] at hu; rcases hu with rfl | rfl | rfl; exact slice_one HCI.out.1; exact slice_one HCI.out.2.1; exact slice_one HCI.out.2.2) g W2 (below_drew (Below.refl _ W2)) (Nat.le_refl _) ?_
  intro W3 G3 bA
  rw [splice_ci] at G3
  rw [show (goInt (([(Value.slice ta0 ln0 cp0), (Value.slice ta1 ln1 cp1), (Value.slice ta2 ln2 cp2)] : List Value).length)) = Value.int .i64 3 from rfl]
  have y3 := Y3.out; have y2 := Y2.out; have hg := HG.out; have yd := d.out.size
  replace B0 := Lib.hid ((bA.block w.heap.size (by omega)).trans B0.out)
  replace B1 := Lib.hid ((bA.block (w.heap.size + 1) (by omega)).trans B1.out)
  replace B2 := G3
  replace d := Lib.hid (d.out.trans (bA.mono (by omega)))
  replace Y3 := Lib.hid (Nat.lt_of_lt_of_le y3 bA.size)
  clear bA G3 HS3 y3 y2 hg yd
  have p_B0_0 := (cell_of_row W3 _ 0 _ _ _ B0.out).trans (show _ = some (Value.slice qa qs.length qc) from rfl)
  have p_B0_1 := (cell_of_row W3 _ 1 _ _ _ B0.out).trans (show _ = some (Value.slice (some ⟨fb, fo, none⟩) 3 fc) from rfl)
  refine hK.out _ _ ⟨p_B0_0, p_B0_1⟩ (fun hHeld => ?_)
  clear p_B0_0 p_B0_1
  clear hK K
  try simp only [Act.put, List.setIfInBounds_toArray, List.set_cons_zero, List.set_cons_succ]
  refine wpAnyH_done (by kernel_rfl) ?_ _
  clear hHeld
  have m0 : maskTo (allL qs) 0 = 0 := maskTo_zero _
  have p_B0_0 := (cell_of_row W3 _ 0 _ _ _ B0.out).trans (show _ = some (Value.slice qa qs.length qc) from rfl)
  have p_B0_1 := (cell_of_row W3 _ 1 _ _ _ B0.out).trans (show _ = some (Value.slice (some ⟨fb, fo, none⟩) 3 fc) from rfl)
  go_wp2
  clear p_B0_0 p_B0_1
  go_loopw [19] (fun i wr => ∃ k : Nat, k ≤ qs.length ∧ i = .int .i64 k ∧ Hid (wr.heap[w.heap.size]? = some (.cells #[.slice qa qs.length qc, .slice (some ⟨fb, fo, none⟩) 3 fc] 27 (0, 0))) ∧ Hid (wr.heap[(w.heap.size + 1)]? = some (.cells #[.int .u32 0, .slice none 0 0, .slice none 0 0, .slice none 0 0] 96 (0, 0))) ∧ Hid (wr.heap[g]? = some (.cells #[.int .u32 ((maskTo (allL qs) k : Nat) : Int), (Value.slice ta0 ln0 cp0), (Value.slice ta1 ln1 cp1), (Value.slice ta2 ln2 cp2)] 96 (0, 0))) ∧ Hid (Below w.heap.size w wr) ∧ Hid (g < wr.heap.size)) (fun i _ => qs.length - (intOf i).toNat)
  case atStart => exact ⟨0, Nat.zero_le _, rfl, B0, B1, by rw [m0]; exact B2, d, Y3⟩
  clear B0 B1 B2 d Y3 m0
  case round =>
    obtain ⟨k, hk, rfl, B0, B1, B2, d, Y3⟩ := hrel
    by_cases hlt : k < qs.length
    · have HS := Lib.hid (ids_to hlt)
      have HR := Lib.hid (ids_range HQ.out hlt)
      have HM := Lib.hid (ids_lt HQ.out hk)
      obtain ⟨b, off, cap', cv, ov, hv, hbl, q0, q1, q2, q3, hcc, hoo⟩ := queriesR_at (slR_queries (slR_below tQuery_law H1.out d.out)) hlt
      simp only [Value.slice.injEq] at hv
      obtain ⟨rfl, _, rfl⟩ := hv
      obtain ⟨ca, cc, rfl⟩ := condsR_len hcc
      obtain ⟨oa, oc, rfl⟩ := ints_len hoo
      clear hcc hoo
      generalize (qs.getD k q0D).2.2.1.length = cl at *
      generalize (qs.getD k q0D).2.2.2.length = ol at *
      have i1 : (0 : Int) ≤ (k : Int) := by omega
      have i2 : (k : Int) < (qs.length : Int) := by omega
      generalize hmk : maskTo (allL qs) k = m at *
      clear hmk
      generalize (qs.getD k q0D).1 = id at *
      generalize (qs.getD k q0D).2.1 = tn at *
      obtain ⟨x, rfl⟩ : ∃ x : Nat, id = (x : Int) := ⟨id.toNat, by have := HR.out; omega⟩
      rw [Int.toNat_natCast] at HS
      have HP : Hid (2 ^ x < 16777216 ∧ ((2 : Int) ^ x % 4294967296 = ((2 ^ x : Nat) : Int))) := by
        have h2 : 2 ^ x < 2 ^ 24 := Nat.pow_lt_pow_right (by omega) (show x < 24 by have := HR.out; omega)
        have h3 : (2 : Int) ^ x = ((2 ^ x : Nat) : Int) := by norm_cast
        exact Lib.hid ⟨h2, by rw [h3]; clear h3; generalize 2 ^ x = q at *; omega⟩
      have x1 : (0 : Int) ≤ (x : Int) := by omega
      have x2 : (x : Int) ≤ 23 := HR.out.2
      go_wp2
      have hal : Below wr.heap.size wr (wr.alloc (.cells #[.int .i64 (x : Int), .int .i64 tn, .slice ca cl cc, .slice oa ol oc] 44)) := (Below.refl _ _).alloc (Nat.le_refl _) _
      have B3 : Hid ((wr.alloc (.cells #[.int .i64 (x : Int), .int .i64 tn, .slice ca cl cc, .slice oa ol oc] 44)).heap[wr.heap.size]? = some (.cells #[.int .i64 (x : Int), .int .i64 tn, .slice ca cl cc, .slice oa ol oc] 44 (0, 0))) := Lib.hid (heap_alloc_new wr _)
      have Y4 : Hid (wr.heap.size < (wr.alloc (.cells #[.int .i64 (x : Int), .int .i64 tn, .slice ca cl cc, .slice oa ol oc] 44)).heap.size) := Lib.hid (by simp)
      replace B0 := Lib.hid ((hal.block w.heap.size (Array.getElem?_eq_some_iff.1 B0.out).1).trans B0.out)
      replace B1 := Lib.hid ((hal.block (w.heap.size + 1) (Array.getElem?_eq_some_iff.1 B1.out).1).trans B1.out)
      replace B2 := Lib.hid ((hal.block g (Array.getElem?_eq_some_iff.1 B2.out).1).trans B2.out)
      replace d := Lib.hid (d.out.trans (hal.mono d.out.size))
      clear hal q0 q1 q2 q3 hbl
      generalize (wr.alloc (.cells #[.int .i64 (x : Int), .int .i64 tn, .slice ca cl cc, .slice oa ol oc] 44)) = W5 at *
      have p_B3_0 := (cell_of_row W5 _ 0 _ _ _ B3.out).trans (show _ = some (Value.int .i64 (x : Int)) from rfl)
      have p_B3_1 := (cell_of_row W5 _ 1 _ _ _ B3.out).trans (show _ = some (Value.int .i64 tn) from rfl)
      have p_B3_2 := (cell_of_row W5 _ 2 _ _ _ B3.out).trans (show _ = some (Value.slice ca cl cc) from rfl)
      have p_B3_3 := (cell_of_row W5 _ 3 _ _ _ B3.out).trans (show _ = some (Value.slice oa ol oc) from rfl)
      refine wp_region_held_drew (S := fun w' => w'.cell? ⟨wr.heap.size, 0, none⟩ = some (Value.int .i64 (x : Int)) ∧ w'.cell? ⟨wr.heap.size, 1, none⟩ = some (Value.int .i64 tn) ∧ w'.cell? ⟨wr.heap.size, 2, none⟩ = some (Value.slice ca cl cc) ∧ w'.cell? ⟨wr.heap.size, 3, none⟩ = some (Value.slice oa ol oc)) (by kernel_rfl) ⟨p_B3_0, p_B3_1, p_B3_2, p_B3_3⟩ (fun hHeld => ?_)
      clear p_B3_0 p_B3_1 p_B3_2 p_B3_3
      have cdr : Below W5.heap.size W5 W5.drew := below_drew (Below.refl _ _)
      replace B0 := Lib.hid ((cdr.block w.heap.size (Array.getElem?_eq_some_iff.1 B0.out).1).trans B0.out)
      replace B1 := Lib.hid ((cdr.block (w.heap.size + 1) (Array.getElem?_eq_some_iff.1 B1.out).1).trans B1.out)
      replace B2 := Lib.hid ((cdr.block g (Array.getElem?_eq_some_iff.1 B2.out).1).trans B2.out)
      replace B3 := Lib.hid ((cdr.block wr.heap.size (Array.getElem?_eq_some_iff.1 B3.out).1).trans B3.out)
      replace d := Lib.hid (d.out.trans (cdr.mono d.out.size))
      clear cdr
      refine take_runs (i := 0) (v := ?_) (by simp only [List.getElem?_toArray, List.getElem?_cons_succ, List.getElem?_cons_zero]; rfl) (by kernel_rfl) (by kernel_rfl) (by kernel_rfl) rfl (by exact fun _ _ _ h => h) (by rfl) ?_ (by assumption) ?_
      rotate_left
      · intro w hSw; (try dsimp only at hSw); go_simp; try (with_reducible rfl)
      try simp only [Act.put, List.setIfInBounds_toArray, List.set_cons_zero, List.set_cons_succ]
      refine take_runs (i := 2) (v := ?_) (by simp only [List.getElem?_toArray, List.getElem?_cons_succ, List.getElem?_cons_zero]; rfl) (by kernel_rfl) (by kernel_rfl) (by kernel_rfl) rfl (by exact fun _ _ _ h => h) (by rfl) ?_ (by assumption) ?_
      rotate_left
      · intro w hSw; (try dsimp only at hSw); go_simp; try (with_reducible rfl)
      try simp only [Act.put, List.setIfInBounds_toArray, List.set_cons_zero, List.set_cons_succ]
      refine take_runs (i := 3) (v := ?_) (by simp only [List.getElem?_toArray, List.getElem?_cons_succ, List.getElem?_cons_zero]; rfl) (by kernel_rfl) (by kernel_rfl) (by kernel_rfl) rfl (by exact fun _ _ _ h => h) (by rfl) ?_ (by assumption) ?_
      rotate_left
      · intro w hSw; (try dsimp only at hSw); go_simp; try (with_reducible rfl)
      try simp only [Act.put, List.setIfInBounds_toArray, List.set_cons_zero, List.set_cons_succ]
      refine take_runs (i := 4) (v := ?_) (by simp only [List.getElem?_toArray, List.getElem?_cons_succ, List.getElem?_cons_zero]; rfl) (by kernel_rfl) (by kernel_rfl) (by kernel_rfl) rfl (by exact fun _ _ _ h => h) (by rfl) ?_ (by assumption) ?_
      rotate_left
      · intro w hSw; (try dsimp only at hSw); go_simp; try (with_reducible rfl)
      try simp only [Act.put, List.setIfInBounds_toArray, List.set_cons_zero, List.set_cons_succ]
      refine wpAnyH_ready (rs := [1]) (by kernel_rfl) (by simp) ?_
      refine (AllReadyH.cons (o := _) (by simp only [List.getElem?_toArray, List.getElem?_cons_succ, List.getElem?_cons_zero]; rfl) (fun K hK => ?_) AllReadyH.nil)
      have p_B2_0 := (cell_of_row (W5.drew) _ 0 _ _ _ B2.out).trans (show _ = some (Value.int .u32 (m : Int)) from rfl)
      have p_B2_1 := (cell_of_row (W5.drew) _ 1 _ _ _ B2.out).trans (show _ = some ((Value.slice ta0 ln0 cp0)) from rfl)
      have p_B2_2 := (cell_of_row (W5.drew) _ 2 _ _ _ B2.out).trans (show _ = some ((Value.slice ta1 ln1 cp1)) from rfl)
      have p_B2_3 := (cell_of_row (W5.drew) _ 3 _ _ _ B2.out).trans (show _ = some ((Value.slice ta2 ln2 cp2)) from rfl)
      go_simp
      clear p_B2_0 p_B2_1 p_B2_2 p_B2_3
      have p_B3_0 := (cell_of_row (W5.drew) _ 0 _ _ _ B3.out).trans (show _ = some (Value.int .i64 (x : Int)) from rfl)
      have p_B3_1 := (cell_of_row (W5.drew) _ 1 _ _ _ B3.out).trans (show _ = some (Value.int .i64 tn) from rfl)
      have p_B3_2 := (cell_of_row (W5.drew) _ 2 _ _ _ B3.out).trans (show _ = some (Value.slice ca cl cc) from rfl)
      have p_B3_3 := (cell_of_row (W5.drew) _ 3 _ _ _ B3.out).trans (show _ = some (Value.slice oa ol oc) from rfl)
      refine hK.out _ _ ⟨p_B3_0, p_B3_1, p_B3_2, p_B3_3⟩ (fun hHeld => ?_)
      clear p_B3_0 p_B3_1 p_B3_2 p_B3_3
      clear hK K
      try simp only [Act.put, List.setIfInBounds_toArray, List.set_cons_zero, List.set_cons_succ]
      refine take_runs (i := 5) (v := ?_) (by simp only [List.getElem?_toArray, List.getElem?_cons_succ, List.getElem?_cons_zero]; rfl) (by kernel_rfl) (by kernel_rfl) (by kernel_rfl) rfl (by exact fun _ _ _ h => h) (by rfl) ?_ (by assumption) ?_
      rotate_left
      · intro w hSw; (try dsimp only at hSw); go_simp; try (with_reducible rfl)
      try simp only [Act.put, List.setIfInBounds_toArray, List.set_cons_zero, List.set_cons_succ]
      refine take_runs (i := 6) (v := ?_) (by simp only [List.getElem?_toArray, List.getElem?_cons_succ, List.getElem?_cons_zero]; rfl) (by kernel_rfl) (by kernel_rfl) (by kernel_rfl) rfl (by exact fun _ _ _ h => h) (by rfl) ?_ (by assumption) ?_
      rotate_left
      · intro w hSw; (try dsimp only at hSw); go_simp; try (with_reducible rfl)
      try simp only [Act.put, List.setIfInBounds_toArray, List.set_cons_zero, List.set_cons_succ]
      refine wpAnyH_ready (rs := [7]) (by kernel_rfl) (by simp) ?_
      refine (AllReadyH.cons (o := _) (by simp only [List.getElem?_toArray, List.getElem?_cons_succ, List.getElem?_cons_zero]; rfl) (fun K hK => ?_) AllReadyH.nil)
      have cx := (cell_of_row (W5.drew) _ 0 _ _ _ B2.out).trans (show _ = some (Value.int .u32 (m : Int)) from rfl)
      have fx := frozen_of_row (W5.drew) _ 0 _ _ B2.out
      go_simp
      clear cx fx
      have HV : bits .or .u32 (m : Int) (IntKind.u32.wrap ((2 : Int) ^ x)) = ((m ||| 2 ^ x : Nat) : Int) := by rw [IntKind.wrap_u32, HP.out.2, or_u32 m _ (by have := HM.out; omega) (by have := HP.out.1; omega)]
      simp only [HV]
      have y3 := Y3.out; have y4 := Y4.out; have yd := d.out.size; have y2 := Y2.out; have hg := HG.out
      have tt : Turn (fun b => b = g) (W5.drew) ((W5.setCell ⟨g, 0, none⟩ (.int .u32 ((m ||| 2 ^ x : Nat) : Int))).drew) := turn_set (G := fun b => b = g) (g := g) (j := 0) (u := (.int .u32 ((m ||| 2 ^ x : Nat) : Int))) rfl
      have r := heap_setCell_same W5 g 0 _ _ (.int .u32 ((m ||| 2 ^ x : Nat) : Int)) B2.out
      simp at r
      replace B2 : Hid (((W5.setCell ⟨g, 0, none⟩ (.int .u32 ((m ||| 2 ^ x : Nat) : Int))).drew).heap[g]? = some (.cells #[.int .u32 ((m ||| 2 ^ x : Nat) : Int), (Value.slice ta0 ln0 cp0), (Value.slice ta1 ln1 cp1), (Value.slice ta2 ln2 cp2)] 96 (0, 0))) := Lib.hid r
      have zc : W5.heap.size ≤ ((W5.setCell ⟨g, 0, none⟩ (.int .u32 ((m ||| 2 ^ x : Nat) : Int))).drew).heap.size := tt.size
      replace B0 := Lib.hid ((tt.block w.heap.size (by show w.heap.size < W5.heap.size; omega) (fun h => by omega)).trans B0.out)
      replace B1 := Lib.hid ((tt.block (w.heap.size + 1) (by show w.heap.size + 1 < W5.heap.size; omega) (fun h => by omega)).trans B1.out)
      replace B3 := Lib.hid ((tt.block wr.heap.size (by show wr.heap.size < W5.heap.size; omega) (fun h => by omega)).trans B3.out)
      replace d := Lib.hid (below_turn d.out tt (fun b h => by omega) d.out.size)
      have Y6 : Hid (g < ((W5.setCell ⟨g, 0, none⟩ (.int .u32 ((m ||| 2 ^ x : Nat) : Int))).drew).heap.size) := Lib.hid (by omega)
      clear tt r y3 y4 yd y2 hg zc HV
      generalize ((W5.setCell ⟨g, 0, none⟩ (.int .u32 ((m ||| 2 ^ x : Nat) : Int))).drew) = W6 at *
      have p_B3_0 := (cell_of_row W6 _ 0 _ _ _ B3.out).trans (show _ = some (Value.int .i64 (x : Int)) from rfl)
      have p_B3_1 := (cell_of_row W6 _ 1 _ _ _ B3.out).trans (show _ = some (Value.int .i64 tn) from rfl)
      have p_B3_2 := (cell_of_row W6 _ 2 _ _ _ B3.out).trans (show _ = some (Value.slice ca cl cc) from rfl)
      have p_B3_3 := (cell_of_row W6 _ 3 _ _ _ B3.out).trans (show _ = some (Value.slice oa ol oc) from rfl)
      refine hK.out _ _ ⟨p_B3_0, p_B3_1, p_B3_2, p_B3_3⟩ (fun hHeld => ?_)
      clear p_B3_0 p_B3_1 p_B3_2 p_B3_3
      clear hK K
      try simp only [Act.put, List.setIfInBounds_toArray, List.set_cons_zero, List.set_cons_succ]
      refine wpAnyH_done (by kernel_rfl) ?_ _
      clear hHeld
      rw [← HS.out] at B2
      clear B3
      go_wp2
      go_roundw
      case rel => exact ⟨k + 1, by omega, by go_num, B0, B1, B2, d, Y6⟩
      case measure => simp [intOf]; omega
    · obtain rfl : k = qs.length := by omega
      have HA := Lib.hid (ids_all HQ.out)
      rw [HA.out] at B2
      generalize hm : maskL (allL qs) = m at *
      have HMM := Lib.hid hm
      clear hm
      have p_B1_0 := (cell_of_row wr _ 0 _ _ _ B1.out).trans (show _ = some (Value.int .u32 0) from rfl)
      have p_B1_1 := (cell_of_row wr _ 1 _ _ _ B1.out).trans (show _ = some (Value.slice none 0 0) from rfl)
      have p_B1_2 := (cell_of_row wr _ 2 _ _ _ B1.out).trans (show _ = some (Value.slice none 0 0) from rfl)
      have p_B1_3 := (cell_of_row wr _ 3 _ _ _ B1.out).trans (show _ = some (Value.slice none 0 0) from rfl)
      have f_B1_0 := frozen_of_row wr _ 0 _ _ B1.out
      have f_B1_1 := frozen_of_row wr _ 1 _ _ B1.out
      have f_B1_2 := frozen_of_row wr _ 2 _ _ B1.out
      have f_B1_3 := frozen_of_row wr _ 3 _ _ B1.out
      have p_B2_0 := (cell_of_row wr _ 0 _ _ _ B2.out).trans (show _ = some (Value.int .u32 (m : Int)) from rfl)
      have p_B2_1 := (cell_of_row wr _ 1 _ _ _ B2.out).trans (show _ = some ((Value.slice ta0 ln0 cp0)) from rfl)
      have p_B2_2 := (cell_of_row wr _ 2 _ _ _ B2.out).trans (show _ = some ((Value.slice ta1 ln1 cp1)) from rfl)
      have p_B2_3 := (cell_of_row wr _ 3 _ _ _ B2.out).trans (show _ = some ((Value.slice ta2 ln2 cp2)) from rfl)
      go_wp2
      have CIW := Lib.hid (ci_below HCI.out d.out)
      have D := Lib.hid (((((d.out.setCell (p := ⟨w.heap.size + 1, 0, none⟩) (by simp) (.int .u32 (m : Int))).setCell (p := ⟨w.heap.size + 1, 1, none⟩) (by simp) ((Value.slice ta0 ln0 cp0))).setCell (p := ⟨w.heap.size + 1, 2, none⟩) (by simp) ((Value.slice ta1 ln1 cp1))).setCell (p := ⟨w.heap.size + 1, 3, none⟩) (by simp) ((Value.slice ta2 ln2 cp2))))
      have r := heap_setCell_same _ (w.heap.size + 1) 3 _ _ ((Value.slice ta2 ln2 cp2)) (heap_setCell_same _ (w.heap.size + 1) 2 _ _ ((Value.slice ta1 ln1 cp1)) (heap_setCell_same _ (w.heap.size + 1) 1 _ _ ((Value.slice ta0 ln0 cp0)) (heap_setCell_same wr (w.heap.size + 1) 0 _ _ (.int .u32 (m : Int)) B1.out)))
      simp at r
      have e0 := (cell_of_row _ (w.heap.size + 1) 0 _ _ _ r).trans (show _ = some (Value.int .u32 (m : Int)) from rfl)
      have e1 := (cell_of_row _ (w.heap.size + 1) 1 _ _ _ r).trans (show _ = some ((Value.slice ta0 ln0 cp0)) from rfl)
      have e2 := (cell_of_row _ (w.heap.size + 1) 2 _ _ _ r).trans (show _ = some ((Value.slice ta1 ln1 cp1)) from rfl)
      have e3 := (cell_of_row _ (w.heap.size + 1) 3 _ _ _ r).trans (show _ = some ((Value.slice ta2 ln2 cp2)) from rfl)
      clear r
      have yd := d.out.size; have y2 := Y2.out
      refine bodyPost_ret (v := .tuple #[ciV m (Value.slice ta0 ln0 cp0) (Value.slice ta1 ln1 cp1) (Value.slice ta2 ln2 cp2), .bool true]) ?_ rfl ⟨(Value.slice ta0 ln0 cp0), (Value.slice ta1 ln1 cp1), (Value.slice ta2 ln2 cp2), by rw [HMM.out], ?_, D.out⟩
      · simp [results, Tryd.f58, go_sem, e0, e1, e2, e3]
      · exact ci_below HCI.out D.out
end Go.Proofs.YtidhmgboknffkaaDoor
namespace Go.Proofs.YtidhmgboknffkaaDoor
open Go.RowKit
set_option linter.unusedVariables false
set_option linter.unusedSimpArgs false
def ordC : List Int := [0, 1, 2, 0, 2, 1, 1, 0, 2, 1, 2, 0, 2, 0, 1, 2, 1, 0]
/-- The table of orders reads as its text lays it. -/
def OrdT (w : World) : Prop := ∀ i, i < 18 → w.cell? ⟨0, i, none⟩ = some (.int .i64 (ordC.getD i 0))
theorem OrdT.on {w w' : World} (h : OrdT w) (hb : Below w.heap.size w w') : OrdT w' := by
  intro i hi
  have h1 := h i hi
  have hlt : 0 < w.heap.size := by
    cases hc : w.heap[0]? with
    | none => simp [World.cell?, hc] at h1
    | some x => exact (Array.getElem?_eq_some_iff.1 hc).1
  exact (hb.cell (p := ⟨0, i, none⟩) hlt).trans h1
/-- The k-th order's fields. -/
def oN (k j : Nat) : Int := (ordersL.getD k []).getD j 0
theorem oN_in {k : Nat} (h : k < 6) : orderB [oN k 0, oN k 1, oN k 2] = true := by
  rcases (show k = 0 ∨ k = 1 ∨ k = 2 ∨ k = 3 ∨ k = 4 ∨ k = 5 by omega) with rfl | rfl | rfl | rfl | rfl | rfl <;> decide
theorem order_all6 {os : List Int} (h : ∀ j, j < 6 → ¬ [oN j 0, oN j 1, oN j 2] = os) : orderB os = false := by
  cases hc : orderB os with
  | false => rfl
  | true =>
    have hm := order_in.1 hc
    simp only [ordersL, List.mem_cons, List.not_mem_nil, or_false] at hm
    rcases hm with rfl | rfl | rfl | rfl | rfl | rfl
    · exact absurd rfl (h 0 (by omega))
    · exact absurd rfl (h 1 (by omega))
    · exact absurd rfl (h 2 (by omega))
    · exact absurd rfl (h 3 (by omega))
    · exact absurd rfl (h 4 (by omega))
    · exact absurd rfl (h 5 (by omega))
set_option maxRecDepth 100000 in
theorem idxO0 (w : World) : Sem.run Tryd.prog (Instr.index 119 (.agg #[.int .i64 0, .int .i64 1, .int .i64 2, .int .i64 0, .int .i64 2, .int .i64 1, .int .i64 1, .int .i64 0, .int .i64 2, .int .i64 1, .int .i64 2, .int .i64 0, .int .i64 2, .int .i64 0, .int .i64 1, .int .i64 2, .int .i64 1, .int .i64 0]) (.int .i64 0)) w = .ok (.agg #[.int .i64 0, .int .i64 1, .int .i64 2]) w := by
  have u := Tryd.underlying119
  have z := Tryd.sizeOf100
  have g := Tryd.isAgg100
  unfold Instr.index
  go_simp
set_option maxRecDepth 100000 in
theorem idxO1 (w : World) : Sem.run Tryd.prog (Instr.index 119 (.agg #[.int .i64 0, .int .i64 1, .int .i64 2, .int .i64 0, .int .i64 2, .int .i64 1, .int .i64 1, .int .i64 0, .int .i64 2, .int .i64 1, .int .i64 2, .int .i64 0, .int .i64 2, .int .i64 0, .int .i64 1, .int .i64 2, .int .i64 1, .int .i64 0]) (.int .i64 1)) w = .ok (.agg #[.int .i64 0, .int .i64 2, .int .i64 1]) w := by
  have u := Tryd.underlying119
  have z := Tryd.sizeOf100
  have g := Tryd.isAgg100
  unfold Instr.index
  go_simp
set_option maxRecDepth 100000 in
theorem idxO2 (w : World) : Sem.run Tryd.prog (Instr.index 119 (.agg #[.int .i64 0, .int .i64 1, .int .i64 2, .int .i64 0, .int .i64 2, .int .i64 1, .int .i64 1, .int .i64 0, .int .i64 2, .int .i64 1, .int .i64 2, .int .i64 0, .int .i64 2, .int .i64 0, .int .i64 1, .int .i64 2, .int .i64 1, .int .i64 0]) (.int .i64 2)) w = .ok (.agg #[.int .i64 1, .int .i64 0, .int .i64 2]) w := by
  have u := Tryd.underlying119
  have z := Tryd.sizeOf100
  have g := Tryd.isAgg100
  unfold Instr.index
  go_simp
set_option maxRecDepth 100000 in
theorem idxO3 (w : World) : Sem.run Tryd.prog (Instr.index 119 (.agg #[.int .i64 0, .int .i64 1, .int .i64 2, .int .i64 0, .int .i64 2, .int .i64 1, .int .i64 1, .int .i64 0, .int .i64 2, .int .i64 1, .int .i64 2, .int .i64 0, .int .i64 2, .int .i64 0, .int .i64 1, .int .i64 2, .int .i64 1, .int .i64 0]) (.int .i64 3)) w = .ok (.agg #[.int .i64 1, .int .i64 2, .int .i64 0]) w := by
  have u := Tryd.underlying119
  have z := Tryd.sizeOf100
  have g := Tryd.isAgg100
  unfold Instr.index
  go_simp
set_option maxRecDepth 100000 in
theorem idxO4 (w : World) : Sem.run Tryd.prog (Instr.index 119 (.agg #[.int .i64 0, .int .i64 1, .int .i64 2, .int .i64 0, .int .i64 2, .int .i64 1, .int .i64 1, .int .i64 0, .int .i64 2, .int .i64 1, .int .i64 2, .int .i64 0, .int .i64 2, .int .i64 0, .int .i64 1, .int .i64 2, .int .i64 1, .int .i64 0]) (.int .i64 4)) w = .ok (.agg #[.int .i64 2, .int .i64 0, .int .i64 1]) w := by
  have u := Tryd.underlying119
  have z := Tryd.sizeOf100
  have g := Tryd.isAgg100
  unfold Instr.index
  go_simp
set_option maxRecDepth 100000 in
theorem idxO5 (w : World) : Sem.run Tryd.prog (Instr.index 119 (.agg #[.int .i64 0, .int .i64 1, .int .i64 2, .int .i64 0, .int .i64 2, .int .i64 1, .int .i64 1, .int .i64 0, .int .i64 2, .int .i64 1, .int .i64 2, .int .i64 0, .int .i64 2, .int .i64 0, .int .i64 1, .int .i64 2, .int .i64 1, .int .i64 0]) (.int .i64 5)) w = .ok (.agg #[.int .i64 2, .int .i64 1, .int .i64 0]) w := by
  have u := Tryd.underlying119
  have z := Tryd.sizeOf100
  have g := Tryd.isAgg100
  unfold Instr.index
  go_simp
set_option maxRecDepth 100000 in
theorem idxO {k : Nat} (h : k < 6) (w : World) : Sem.run Tryd.prog (Instr.index 119 (.agg #[.int .i64 0, .int .i64 1, .int .i64 2, .int .i64 0, .int .i64 2, .int .i64 1, .int .i64 1, .int .i64 0, .int .i64 2, .int .i64 1, .int .i64 2, .int .i64 0, .int .i64 2, .int .i64 0, .int .i64 1, .int .i64 2, .int .i64 1, .int .i64 0]) (.int .i64 (k : Int))) w = .ok (.agg #[.int .i64 (oN k 0), .int .i64 (oN k 1), .int .i64 (oN k 2)]) w := by
  rcases (show k = 0 ∨ k = 1 ∨ k = 2 ∨ k = 3 ∨ k = 4 ∨ k = 5 by omega) with rfl | rfl | rfl | rfl | rfl | rfl
  · exact idxO0 w
  · exact idxO1 w
  · exact idxO2 w
  · exact idxO3 w
  · exact idxO4 w
  · exact idxO5 w
theorem ints_three {w : World} {b : Nat} {x y z : Int} {t : TypeId} (h : w.heap[b]? = some (.cells #[.int .i64 x, .int .i64 y, .int .i64 z] t (0, 0))) : Ints w (.slice (some ⟨b, 0, none⟩) 3 3) [x, y, z] := by
  refine Or.inr ⟨b, 0, 3, rfl, Nat.le_refl _, (Array.getElem?_eq_some_iff.1 h).1, fun j hj => ?_⟩
  rw [Nat.zero_add, cell_of_row w b j _ _ _ h]
  match j, hj with
  | 0, _ => rfl
  | 1, _ => rfl
  | 2, _ => rfl
set_option maxHeartbeats 16000000 in
set_option maxRecDepth 100000 in
theorem implOrderOf (ov : Value) (os : List Int) (w : World) (h : Ints w ov os) (hn : os.length ≤ 1048576) (ht : OrdT w) :
    Calls Tryd.prog 59 #[ov] w fun e w' => ((orderB os = true ∧ e = .returned (.tuple #[.agg #[.int .i64 (os.getD 0 0), .int .i64 (os.getD 1 0), .int .i64 (os.getD 2 0)], .bool true])) ∨ (orderB os = false ∧ e = .returned (.tuple #[.agg #[.int .i64 0, .int .i64 0, .int .i64 0], .bool false]))) ∧ Below w.heap.size w w' := by
  obtain ⟨oa, oc, rfl⟩ := ints_len h
  have H := Lib.hid h
  have HN := Lib.hid hn
  have hal : Below w.heap.size w (w.alloc (.cells #[.int .i64 0, .int .i64 0, .int .i64 0] 100)) := (Below.refl _ _).alloc (Nat.le_refl _) _
  have B0 : Hid ((w.alloc (.cells #[.int .i64 0, .int .i64 0, .int .i64 0] 100)).heap[w.heap.size]? = some (.cells #[.int .i64 0, .int .i64 0, .int .i64 0] 100 (0, 0))) := Lib.hid (heap_alloc_new w _)
  have Y0 : Hid (w.heap.size < (w.alloc (.cells #[.int .i64 0, .int .i64 0, .int .i64 0] 100)).heap.size) := Lib.hid (by simp)
  have T0 := ht.on hal
  have d := Lib.hid hal
  clear h hn ht hal
  have t0 : (w.alloc (.cells #[.int .i64 0, .int .i64 0, .int .i64 0] 100)).cell? ⟨0, 0, none⟩ = some (.int .i64 0) := T0 0 (by omega)
  have t1 : (w.alloc (.cells #[.int .i64 0, .int .i64 0, .int .i64 0] 100)).cell? ⟨0, 1, none⟩ = some (.int .i64 1) := T0 1 (by omega)
  have t2 : (w.alloc (.cells #[.int .i64 0, .int .i64 0, .int .i64 0] 100)).cell? ⟨0, 2, none⟩ = some (.int .i64 2) := T0 2 (by omega)
  have t3 : (w.alloc (.cells #[.int .i64 0, .int .i64 0, .int .i64 0] 100)).cell? ⟨0, 3, none⟩ = some (.int .i64 0) := T0 3 (by omega)
  have t4 : (w.alloc (.cells #[.int .i64 0, .int .i64 0, .int .i64 0] 100)).cell? ⟨0, 4, none⟩ = some (.int .i64 2) := T0 4 (by omega)
  have t5 : (w.alloc (.cells #[.int .i64 0, .int .i64 0, .int .i64 0] 100)).cell? ⟨0, 5, none⟩ = some (.int .i64 1) := T0 5 (by omega)
  have t6 : (w.alloc (.cells #[.int .i64 0, .int .i64 0, .int .i64 0] 100)).cell? ⟨0, 6, none⟩ = some (.int .i64 1) := T0 6 (by omega)
  have t7 : (w.alloc (.cells #[.int .i64 0, .int .i64 0, .int .i64 0] 100)).cell? ⟨0, 7, none⟩ = some (.int .i64 0) := T0 7 (by omega)
  have t8 : (w.alloc (.cells #[.int .i64 0, .int .i64 0, .int .i64 0] 100)).cell? ⟨0, 8, none⟩ = some (.int .i64 2) := T0 8 (by omega)
  have t9 : (w.alloc (.cells #[.int .i64 0, .int .i64 0, .int .i64 0] 100)).cell? ⟨0, 9, none⟩ = some (.int .i64 1) := T0 9 (by omega)
  have t10 : (w.alloc (.cells #[.int .i64 0, .int .i64 0, .int .i64 0] 100)).cell? ⟨0, 10, none⟩ = some (.int .i64 2) := T0 10 (by omega)
  have t11 : (w.alloc (.cells #[.int .i64 0, .int .i64 0, .int .i64 0] 100)).cell? ⟨0, 11, none⟩ = some (.int .i64 0) := T0 11 (by omega)
  have t12 : (w.alloc (.cells #[.int .i64 0, .int .i64 0, .int .i64 0] 100)).cell? ⟨0, 12, none⟩ = some (.int .i64 2) := T0 12 (by omega)
  have t13 : (w.alloc (.cells #[.int .i64 0, .int .i64 0, .int .i64 0] 100)).cell? ⟨0, 13, none⟩ = some (.int .i64 0) := T0 13 (by omega)
  have t14 : (w.alloc (.cells #[.int .i64 0, .int .i64 0, .int .i64 0] 100)).cell? ⟨0, 14, none⟩ = some (.int .i64 1) := T0 14 (by omega)
  have t15 : (w.alloc (.cells #[.int .i64 0, .int .i64 0, .int .i64 0] 100)).cell? ⟨0, 15, none⟩ = some (.int .i64 2) := T0 15 (by omega)
  have t16 : (w.alloc (.cells #[.int .i64 0, .int .i64 0, .int .i64 0] 100)).cell? ⟨0, 16, none⟩ = some (.int .i64 1) := T0 16 (by omega)
  have t17 : (w.alloc (.cells #[.int .i64 0, .int .i64 0, .int .i64 0] 100)).cell? ⟨0, 17, none⟩ = some (.int .i64 0) := T0 17 (by omega)
  clear T0
  go_enter Tryd.func59, Tryd.ntmps59
  go_wp2
  generalize w.alloc (.cells #[.int .i64 0, .int .i64 0, .int .i64 0] 100) = W at *
  clear t0 t1 t2 t3 t4 t5 t6 t7 t8 t9 t10 t11 t12 t13 t14 t15 t16 t17
  go_loopw [7] (fun i wr => ∃ k : Nat, k ≤ 6 ∧ i = .int .i64 k ∧ Hid (∀ j, j < k → ¬ [oN j 0, oN j 1, oN j 2] = os) ∧ Hid (wr.heap[w.heap.size]? = some (.cells #[.int .i64 0, .int .i64 0, .int .i64 0] 100 (0, 0))) ∧ Hid (Below w.heap.size w wr) ∧ Hid (w.heap.size < wr.heap.size)) (fun i _ => 6 - (intOf i).toNat)
  case atStart => exact ⟨0, Nat.zero_le _, rfl, Lib.hid (fun j hj => by omega), B0, d, Y0⟩
  case round =>
    clear B0 d Y0
    obtain ⟨k, hk, rfl, hno, B0, d, Y0⟩ := hrel
    by_cases hlt : k < 6
    · have hI := idxO hlt
      have HIN := Lib.hid (oN_in hlt)
      have i1 : (0 : Int) ≤ (k : Int) := by omega
      have i2 : (k : Int) < 6 := by omega
      have HST : Hid (¬ [oN k 0, oN k 1, oN k 2] = os → ∀ j, j < k + 1 → ¬ [oN j 0, oN j 1, oN j 2] = os) := Lib.hid (fun he j hj => by
        by_cases e : j = k
        · exact e ▸ he
        · exact hno.out j (by omega))
      clear hno
      generalize oN k 0 = x at *
      generalize oN k 1 = y at *
      generalize oN k 2 = z at *
      have hal : Below wr.heap.size wr (wr.alloc (.cells #[.int .i64 x, .int .i64 y, .int .i64 z] 100)) := (Below.refl _ _).alloc (Nat.le_refl _) _
      have B1 : Hid ((wr.alloc (.cells #[.int .i64 x, .int .i64 y, .int .i64 z] 100)).heap[wr.heap.size]? = some (.cells #[.int .i64 x, .int .i64 y, .int .i64 z] 100 (0, 0))) := Lib.hid (heap_alloc_new wr _)
      have HQ := Lib.hid (fun w h g => equalInts_any (.slice (some ⟨wr.heap.size, 0, none⟩) 3 3) (.slice oa os.length oc) [x, y, z] os w h g (by show 3 ≤ 1048576; decide) HN.out)
      by_cases he : [x, y, z] = os
      · rw [decide_eq_true he] at HQ
        have HE := Lib.hid he
        clear he HST
        go_wp2_with fail
        generalize wr.alloc (.cells #[.int .i64 x, .int .i64 y, .int .i64 z] 100) = W2 at *
        have d2 := Lib.hid (d.out.trans (hal.mono d.out.size))
        refine (HQ.out W2 (ints_three B1.out) (ints_below H.out d2.out)).mono ?_
        rintro e w3 ⟨rfl, c3⟩
        have B1' := (c3.block wr.heap.size (Array.getElem?_eq_some_iff.1 B1.out).1).trans B1.out
        have B0' := (c3.block w.heap.size (by have := Y0.out; have := hal.size; omega)).trans ((hal.block w.heap.size Y0.out).trans B0.out)
        have d3 := d2.out.trans (c3.mono d2.out.size)
        have p0 := (cell_of_row w3 _ 0 _ _ _ B1').trans (show _ = some (Value.int .i64 x) from rfl)
        have p1 := (cell_of_row w3 _ 1 _ _ _ B1').trans (show _ = some (Value.int .i64 y) from rfl)
        have p2 := (cell_of_row w3 _ 2 _ _ _ B1').trans (show _ = some (Value.int .i64 z) from rfl)
        have q0 := (cell_of_row w3 _ 0 _ _ _ B0').trans (show _ = some (Value.int .i64 0) from rfl)
        have q1 := (cell_of_row w3 _ 1 _ _ _ B0').trans (show _ = some (Value.int .i64 0) from rfl)
        have q2 := (cell_of_row w3 _ 2 _ _ _ B0').trans (show _ = some (Value.int .i64 0) from rfl)
        have f0 := frozen_of_row w3 _ 0 _ _ B0'
        have f1 := frozen_of_row w3 _ 1 _ _ B0'
        have f2 := frozen_of_row w3 _ 2 _ _ B0'
        have D := Lib.hid (((d3.setCell (p := ⟨w.heap.size, 0, none⟩) (Nat.le_refl _) (.int .i64 x)).setCell (p := ⟨w.heap.size, 1, none⟩) (Nat.le_refl _) (.int .i64 y)).setCell (p := ⟨w.heap.size, 2, none⟩) (Nat.le_refl _) (.int .i64 z))
        have r := heap_setCell_same _ w.heap.size 2 _ _ (.int .i64 z) (heap_setCell_same _ w.heap.size 1 _ _ (.int .i64 y) (heap_setCell_same w3 w.heap.size 0 _ _ (.int .i64 x) B0'))
        simp at r
        have e0 := (cell_of_row _ w.heap.size 0 _ _ _ r).trans (show _ = some (Value.int .i64 x) from rfl)
        have e1 := (cell_of_row _ w.heap.size 1 _ _ _ r).trans (show _ = some (Value.int .i64 y) from rfl)
        have e2 := (cell_of_row _ w.heap.size 2 _ _ _ r).trans (show _ = some (Value.int .i64 z) from rfl)
        clear r d3 c3 B0' B1' hal
        go_wp2
        refine bodyPost_ret (v := .tuple #[.agg #[.int .i64 x, .int .i64 y, .int .i64 z], .bool true]) ?_ rfl ?_
        · simp [results, Tryd.f59, go_sem, e0, e1, e2]
        · have he := HE.out
          subst he
          exact ⟨Or.inl ⟨HIN.out, rfl⟩, D.out⟩
      · rw [decide_eq_false he] at HQ
        have HA := Lib.hid (HST.out he)
        clear he HST
        go_wp2_with fail
        generalize wr.alloc (.cells #[.int .i64 x, .int .i64 y, .int .i64 z] 100) = W2 at *
        have d2 := Lib.hid (d.out.trans (hal.mono d.out.size))
        refine (HQ.out W2 (ints_three B1.out) (ints_below H.out d2.out)).mono ?_
        rintro e w3 ⟨rfl, c3⟩
        have B0' := Lib.hid ((c3.block w.heap.size (by have := Y0.out; have := hal.size; omega)).trans ((hal.block w.heap.size Y0.out).trans B0.out))
        have d3 := Lib.hid (d2.out.trans (c3.mono d2.out.size))
        have Y3 : Hid (w.heap.size < w3.heap.size) := Lib.hid (by have := Y0.out; have := hal.size; have := c3.size; omega)
        clear c3 hal B1 hI
        go_wp2
        go_roundw
        case rel => exact ⟨k + 1, by omega, by go_num, HA, B0', d3, Y3⟩
        case measure => simp [intOf]; omega
    · obtain rfl : k = 6 := by omega
      have HF := Lib.hid (order_all6 hno.out)
      clear hno
      have q0 := (cell_of_row wr _ 0 _ _ _ B0.out).trans (show _ = some (Value.int .i64 0) from rfl)
      have q1 := (cell_of_row wr _ 1 _ _ _ B0.out).trans (show _ = some (Value.int .i64 0) from rfl)
      have q2 := (cell_of_row wr _ 2 _ _ _ B0.out).trans (show _ = some (Value.int .i64 0) from rfl)
      have f0 := frozen_of_row wr _ 0 _ _ B0.out
      have f1 := frozen_of_row wr _ 1 _ _ B0.out
      have f2 := frozen_of_row wr _ 2 _ _ B0.out
      have D := Lib.hid (((d.out.setCell (p := ⟨w.heap.size, 0, none⟩) (Nat.le_refl _) (.int .i64 0)).setCell (p := ⟨w.heap.size, 1, none⟩) (Nat.le_refl _) (.int .i64 0)).setCell (p := ⟨w.heap.size, 2, none⟩) (Nat.le_refl _) (.int .i64 0))
      have r := heap_setCell_same _ w.heap.size 2 _ _ (.int .i64 0) (heap_setCell_same _ w.heap.size 1 _ _ (.int .i64 0) (heap_setCell_same wr w.heap.size 0 _ _ (.int .i64 0) B0.out))
      simp at r
      have e0 := (cell_of_row _ w.heap.size 0 _ _ _ r).trans (show _ = some (Value.int .i64 0) from rfl)
      have e1 := (cell_of_row _ w.heap.size 1 _ _ _ r).trans (show _ = some (Value.int .i64 0) from rfl)
      have e2 := (cell_of_row _ w.heap.size 2 _ _ _ r).trans (show _ = some (Value.int .i64 0) from rfl)
      clear r
      go_wp2
      refine bodyPost_ret (v := .tuple #[.agg #[.int .i64 0, .int .i64 0, .int .i64 0], .bool false]) ?_ rfl ?_
      · simp [results, Tryd.f59, go_sem, e0, e1, e2]
      · exact ⟨Or.inr ⟨HF.out, rfl⟩, D.out⟩
end Go.Proofs.YtidhmgboknffkaaDoor
namespace Go.Proofs.YtidhmgboknffkaaDoor
open Go.RowKit
set_option linter.unusedVariables false
theorem fold_pop : (⟨(([0, 1, 1, 2, 1, 2, 2, 3, 1, 2, 2, 3, 2, 3, 3, 4, 1, 2, 2, 3, 2, 3, 3, 4, 2, 3, 3, 4, 3, 4, 4, 5, 1, 2, 2, 3, 2, 3, 3, 4, 2, 3, 3, 4, 3, 4, 4, 5, 2, 3, 3, 4, 3, 4, 4, 5, 3, 4, 4, 5, 4, 5, 5, 6].append [1, 2, 2, 3, 2, 3, 3, 4, 2, 3, 3, 4, 3, 4, 4, 5, 2, 3, 3, 4, 3, 4, 4, 5, 3, 4, 4, 5, 4, 5, 5, 6, 2, 3, 3, 4, 3, 4, 4, 5, 3, 4, 4, 5, 4, 5, 5, 6, 3, 4, 4, 5, 4, 5, 5, 6, 4, 5, 5, 6, 5, 6, 6, 7]).append ([1, 2, 2, 3, 2, 3, 3, 4, 2, 3, 3, 4, 3, 4, 4, 5, 2, 3, 3, 4, 3, 4, 4, 5, 3, 4, 4, 5, 4, 5, 5, 6, 2, 3, 3, 4, 3, 4, 4, 5, 3, 4, 4, 5, 4, 5, 5, 6, 3, 4, 4, 5, 4, 5, 5, 6, 4, 5, 5, 6, 5, 6, 6, 7].append [2, 3, 3, 4, 3, 4, 4, 5, 3, 4, 4, 5, 4, 5, 5, 6, 3, 4, 4, 5, 4, 5, 5, 6, 4, 5, 5, 6, 5, 6, 6, 7, 3, 4, 4, 5, 4, 5, 5, 6, 4, 5, 5, 6, 5, 6, 6, 7, 4, 5, 5, 6, 5, 6, 6, 7, 5, 6, 6, 7, 6, 7, 7, 8])).toArray⟩ : ByteArray) = Lib.pop8tab := by decide +kernel
theorem ret_i {a b : Int} (h : a = b) : Ending.returned (.int .i64 a) = .returned (.int .i64 b) := by rw [h]
theorem below_drewN {B : Nat} {a w : World} (h : Below B a w) (q : Nat) : Below B a (w.drewN q) := ⟨h.os, h.tape, h.output, h.size, h.block⟩
theorem byte_u32 (x : Int) (h0 : 0 ≤ x) (h1 : x < 4294967296) : 0 ≤ bits .and .u32 x 255 ∧ bits .and .u32 x 255 ≤ 255 := by
  have h : bits .and .u32 x 255 = x % 256 := bits_mask .u32 32 (by decide) (fun n a b => by rw [IntKind.wrap_u32]; omega) 8 (by decide) x h0 (by omega)
  rw [h]; omega
theorem pop_byte (x : Nat) (h : x < 4294967296) : Lib.pop8 (bits .and .u32 (x : Int) 255) = (Lib.onesCount (x % 256) : Int) := by
  have e : bits .and .u32 (x : Int) 255 = (x : Int) % 256 := bits_mask .u32 32 (by decide) (fun n a b => by rw [IntKind.wrap_u32]; omega) 8 (by decide) (x : Int) (by omega) (by omega)
  rw [e]
  have := Lib.pop8_eq ⟨x % 256, Nat.mod_lt _ (by omega)⟩
  simpa using this
set_option maxHeartbeats 1000000 in
set_option maxRecDepth 100000 in
theorem onesCount (m : Nat) (hm : m < 16777216) (w : World) : Calls Tryd.prog 146 #[.int .u32 (m : Nat)] w fun e w' => e = .returned (.int .i64 (cntM m : Nat)) ∧ Below w.heap.size w w' := by
  have HC := Lib.hid (memL_count m)
  have HL := Lib.hid (memL_le m)
  have E1 : Hid (Lib.pop8 ((m : Int) / 16777216) = 0) := Lib.hid (by
    have e : (m : Int) / 16777216 = 0 := by omega
    rw [e]; decide +kernel)
  have E2 : Hid (Lib.pop8 (bits .and .u32 ((m : Int) / 65536) 255) = (Lib.onesCount (m / 65536 % 256) : Int)) := Lib.hid (by
    have := pop_byte (m / 65536) (by omega)
    simpa using this)
  have E3 : Hid (Lib.pop8 (bits .and .u32 ((m : Int) / 256) 255) = (Lib.onesCount (m / 256 % 256) : Int)) := Lib.hid (by
    have := pop_byte (m / 256) (by omega)
    simpa using this)
  have E4 : Hid (Lib.pop8 (bits .and .u32 (m : Int) 255) = (Lib.onesCount (m % 256) : Int)) := Lib.hid (pop_byte m (by omega))
  go_enter Tryd.func146, Tryd.ntmps146
  have h0 : (0 : Int) ≤ (m : Int) := by omega
  have h1 : (m : Int) < 16777216 := by omega
  go_wp2
  simp only [fold_pop]
  have a0 : (0 : Int) ≤ (m : Int) / 16777216 := by omega
  have a1 : (m : Int) / 16777216 ≤ 255 := by omega
  have hu := Tryd.underlying9
  obtain ⟨b0, b1⟩ := byte_u32 ((m : Int) / 65536) (by omega) (by omega)
  obtain ⟨c0, c1⟩ := byte_u32 ((m : Int) / 256) (by omega) (by omega)
  obtain ⟨d0, d1⟩ := byte_u32 (m : Int) (by omega) (by omega)
  clear h1
  go_quiet (fail)
  generalize hp1 : Lib.pop8 _ = p1
  generalize hp2 : Lib.pop8 _ = p2
  generalize hp3 : Lib.pop8 _ = p3
  generalize hp4 : Lib.pop8 _ = p4
  have HS : Hid (p1 + p2 + p3 + p4 = ((cntM m : Nat) : Int)) := Lib.hid (by
    have e1 := E1.out; have e2 := E2.out; have e3 := E3.out; have e4 := E4.out; have hc := HC.out
    rw [← hp1, ← hp2, ← hp3, ← hp4]
    simp only [e1, e2, e3, e4]
    unfold cntM
    omega)
  clear hp1 hp2 hp3 hp4 E1 E2 E3 E4
  go_wp2
  go_ret
  refine ⟨ret_i ?_, below_drewN (Below.refl _ _) _⟩
  have hs := HS.out; have hl := HL.out
  have : cntM m ≤ 24 := hl
  omega
set_option maxHeartbeats 1000000 in
set_option maxRecDepth 100000 in
theorem maskCount (m : Nat) (hm : m < 16777216) (w : World) : Calls Tryd.prog 112 #[.int .u32 (m : Nat)] w fun e w' => e = .returned (.int .i64 (cntM m : Nat)) ∧ Below w.heap.size w w' := by
  have HC := Lib.hid (fun w => onesCount m hm w)
  generalize cntM m = c at *
  go_enter Tryd.func112, Tryd.ntmps112
  go_wp2_with fail
  refine (HC.out _).mono ?_
  rintro e w1 ⟨rfl, b1⟩
  go_wp2
  go_ret
  exact ⟨rfl, b1⟩
end Go.Proofs.YtidhmgboknffkaaDoor
