/-
  Texts of the proof, merged: SpanEqP, FieldsEqP, TIndex, IdxSize, IsIndexP, TyApp, FlatT, Cpl6Query, Mpl6Queries, StabSpec, StabsSpec, BuildSpec, IdxSpec2, IdxSpec1, SetOps, IdxSpec3, IdxSpec4, IdxSpec5, TRow, TRowS, BrRow, IdxSpec6, IdxSpec7, IdxSpec8, IdxFit, LawIsIndex, OpenInts, OpnT, OCond, OCondS, OQuery, OQueryS, OSpan, OSpanS, OSpanSS, OIndex.
-/
import Derived.Test.YtidhmgboknffkaaG4
import Derived.BigQuiet
import Derived.Deep.QuietTactic
import Derived.Deep.RegionHeld3
import Derived.Maps.AppendAt
import Derived.Deep.Upon
import Derived.Deep.Slices
import Derived.Lib.MinMax
import Derived.ProofKit
import Derived.OpenShut
import Derived.Carry
import Derived.Lib.SmallJoins
namespace Go.Proofs.Ytidhmgboknffkaa
open Go.RowKit
set_option linter.unusedVariables false
set_option linter.unusedSimpArgs false
theorem span_eq3 {fr tt fr2 tt2 : Int} {xs ys : List Int} (h1 : fr = fr2) (h2 : tt = tt2) : decide (((fr, tt, xs) : SpanD) = (fr2, tt2, ys)) = decide (xs = ys) := by subst h1; subst h2; simp
set_option maxHeartbeats 8000000 in
set_option maxRecDepth 100000 in
theorem equalSpan_any (fr tt fr2 tt2 : Int) (v u : Value) (xs ys : List Int) (w : World) (h : Ints w v xs) (g : Ints w u ys) (hn : xs.length ≤ 1048576) (hm : ys.length ≤ 1048576) :
    Calls Try.prog 95 #[.agg #[.int .i64 fr, .int .i64 tt, v], .agg #[.int .i64 fr2, .int .i64 tt2, u]] w fun e w' => e = .returned (.bool (decide (((fr, tt, xs) : SpanD) = (fr2, tt2, ys)))) ∧ Below w.heap.size w w' := by
  obtain ⟨va, vcap, rfl⟩ := ints_len h
  obtain ⟨ua, ucap, rfl⟩ := ints_len g
  have hb : Below w.heap.size w ((w.alloc (.cells #[.int .i64 fr, .int .i64 tt, .slice va xs.length vcap] 100)).alloc (.cells #[.int .i64 fr2, .int .i64 tt2, .slice ua ys.length ucap] 100)) := ((Below.refl _ w).alloc (Nat.le_refl _) _).alloc (by simp) _
  have HQ := Lib.hid (fun w h g => equalInts_any (.slice va xs.length vcap) (.slice ua ys.length ucap) xs ys w h g hn hm)
  have HV := Lib.hid (ints_below h hb)
  have HU := Lib.hid (ints_below g hb)
  clear h g hn hm
  by_cases h1 : fr = fr2
  · by_cases h2 : tt = tt2
    · have HE := Lib.hid (span_eq3 (xs := xs) (ys := ys) h1 h2)
      have e1 : (fr == fr2) = true := by simp [h1]
      have e2 : (tt == tt2) = true := by simp [h2]
      rw [HE.out]
      generalize decide (xs = ys) = r at *
      clear h1 h2 HE
      go_enter Try.func95, Try.ntmps95
      go_wp2_with fail
      generalize ((w.alloc (.cells #[.int .i64 fr, .int .i64 tt, .slice va xs.length vcap] 100)).alloc (.cells #[.int .i64 fr2, .int .i64 tt2, .slice ua ys.length ucap] 100)) = W at *
      refine (HQ.out _ HV.out HU.out).mono ?_
      rintro e w1 ⟨rfl, b1⟩
      have b2 := hb.trans (b1.mono hb.size)
      go_wp2
      go_ret
      exact ⟨rfl, b2⟩
    · have HE : Hid (decide (((fr, tt, xs) : SpanD) = (fr2, tt2, ys)) = false) := Lib.hid (decide_eq_false (fun e => h2 (by injection e with _ e; injection e)))
      have e1 : (fr == fr2) = true := by simp [h1]
      have e2 : (tt == tt2) = false := by simp [h2]
      clear h1 h2 HQ
      go_enter Try.func95, Try.ntmps95
      go_wp2
      go_ret
      exact ⟨ret_b HE.out.symm, hb⟩
  · have HE : Hid (decide (((fr, tt, xs) : SpanD) = (fr2, tt2, ys)) = false) := Lib.hid (decide_eq_false (fun e => h1 (by injection e)))
    have e1 : (fr == fr2) = false := by simp [h1]
    clear h1 HQ
    go_enter Try.func95, Try.ntmps95
    go_wp2
    go_ret
    exact ⟨ret_b HE.out.symm, hb⟩
set_option maxHeartbeats 8000000 in
set_option maxRecDepth 100000 in
theorem spansFunc_any (v u : Value) (rs ss : List SpanD) (w : World) (h : SpansR w v rs) (g : SpansR w u ss) (hs : zpL rs ≤ 1048576) (ht : zpL ss ≤ 1048576) :
    Calls Try.prog 94 #[v, u, .func (.func 95) #[] #[]] w fun e w' => e = .returned (.bool (decide (rs = ss))) ∧ Below w.heap.size w w' := by
  have H := Lib.hid h
  have G := Lib.hid g
  have HS := Lib.hid hs
  have HT := Lib.hid ht
  have hlen := zpL_len hs
  have hlen2 := zpL_len ht
  obtain ⟨a, cap, rfl⟩ := spansR_len h
  obtain ⟨a2, cap2, rfl⟩ := spansR_len g
  clear h g hs ht
  by_cases hl : rs.length = ss.length
  · have HL := Lib.hid hl
    have hne : ((rs.length : Int) != (ss.length : Int)) = false := by rw [hl]; simp
    clear hl
    go_enter Try.func94, Try.ntmps94
    go_wp2
    clear hne
    go_loopw [17] (fun i wr => ∃ k : Nat, k ≤ rs.length ∧ i = .int .i64 k ∧ Hid (∀ j, j < k → rs.getD j p0D = ss.getD j p0D) ∧ Below w.heap.size w wr) (fun i _ => rs.length - (intOf i).toNat)
    case atStart => exact ⟨0, Nat.zero_le _, rfl, Lib.hid (fun j hj => by omega), Below.refl _ _⟩
    case round =>
      obtain ⟨k, hk, rfl, hall, hbel⟩ := hrel
      by_cases hlt : k < rs.length
      · have hlt2 : k < ss.length := by have := HL.out; omega
        obtain ⟨b, off, cap', vv, hv, hbl, hc1, hc1b, hc2, hI⟩ := spansR_at (spansR_below H.out hbel) hlt
        simp only [Value.slice.injEq] at hv
        obtain ⟨rfl, _, rfl⟩ := hv
        obtain ⟨b2, off2, cap2', uv, hv2, hbl2, hd1, hd1b, hd2, hJ⟩ := spansR_at (spansR_below G.out hbel) hlt2
        simp only [Value.slice.injEq] at hv2
        obtain ⟨rfl, _, rfl⟩ := hv2
        have hxl := zpL_span HS.out hlt
        have hyl := zpL_span HT.out hlt2
        have i1 : (0 : Int) ≤ (k : Int) := by omega
        have i2 : (k : Int) < (rs.length : Int) := by omega
        have i3 : (k : Int) < (ss.length : Int) := by omega
        have HNE := Lib.hid (fun e => decide_eq_false (spans_ne_at (rs := rs) (ss := ss) (k := k) e))
        have HALL : Hid (rs.getD k p0D = ss.getD k p0D → ∀ j, j < k + 1 → rs.getD j p0D = ss.getD j p0D) := Lib.hid (fun he j hj => by
          by_cases e : j = k
          · exact e ▸ he
          · exact hall.out j (by omega))
        clear hall
        generalize rs.getD k p0D = r at *
        generalize ss.getD k p0D = q at *
        obtain ⟨fr, tt, xs⟩ := r
        obtain ⟨fr2, tt2, ys⟩ := q
        simp only at hc1 hc1b hc2 hd1 hd1b hd2 hI hJ hxl hyl
        obtain ⟨va, vcap, rfl⟩ := ints_len hI
        obtain ⟨ua, ucap, rfl⟩ := ints_len hJ
        have HSM := Lib.hid (fun w h g => equalSpan_any fr tt fr2 tt2 (.slice va xs.length vcap) (.slice ua ys.length ucap) xs ys w h g hxl hyl)
        have bb := ((Below.refl wr.heap.size wr).alloc (Nat.le_refl _) (.cells #[.int .i64 fr, .int .i64 tt, .slice va xs.length vcap] 100)).alloc (by simp) (.cells #[.int .i64 fr2, .int .i64 tt2, .slice ua ys.length ucap] 100)
        have hd1' := ((Below.refl wr.heap.size wr).alloc (Nat.le_refl _) (.cells #[.int .i64 fr, .int .i64 tt, .slice va xs.length vcap] 100)).cell (p := ⟨b2, off2 + k * 3, none⟩) hbl2
        have hd1b' := ((Below.refl wr.heap.size wr).alloc (Nat.le_refl _) (.cells #[.int .i64 fr, .int .i64 tt, .slice va xs.length vcap] 100)).cell (p := ⟨b2, off2 + k * 3 + 1, none⟩) hbl2
        have hd2' := ((Below.refl wr.heap.size wr).alloc (Nat.le_refl _) (.cells #[.int .i64 fr, .int .i64 tt, .slice va xs.length vcap] 100)).cell (p := ⟨b2, off2 + k * 3 + 2, none⟩) hbl2
        rw [hd1] at hd1'
        rw [hd1b] at hd1b'
        rw [hd2] at hd2'
        by_cases he : ((fr, tt, xs) : SpanD) = (fr2, tt2, ys)
        · have HA := Lib.hid (HALL.out he)
          rw [decide_eq_true he] at HSM
          clear he HNE HALL
          go_wp2_with fail
          refine (HSM.out _ (ints_below hI bb) (ints_below hJ bb)).mono ?_
          rintro e w8 ⟨rfl, b9⟩
          have b11 := hbel.trans ((bb.trans (b9.mono bb.size)).mono hbel.size)
          clear b9 bb hd1' hd1b' hd2'
          go_wp2
          go_roundw
          case rel => exact ⟨k + 1, by omega, by go_num, HA, b11⟩
          case measure => simp [intOf]; omega
        · have HF := Lib.hid (HNE.out he)
          rw [decide_eq_false he] at HSM
          clear he HNE HALL
          go_wp2_with fail
          refine (HSM.out _ (ints_below hI bb) (ints_below hJ bb)).mono ?_
          rintro e w8 ⟨rfl, b9⟩
          have b11 := hbel.trans ((bb.trans (b9.mono bb.size)).mono hbel.size)
          clear b9 bb hd1' hd1b' hd2'
          go_wp2
          go_ret
          exact ⟨ret_b HF.out.symm, b11⟩
      · obtain rfl : k = rs.length := by omega
        have HE := Lib.hid (decide_eq_true (spans_eq_all HL.out hall.out))
        clear hall
        go_wp2
        go_ret
        exact ⟨ret_b HE.out.symm, hbel⟩
  · have HF := Lib.hid (decide_eq_false (show ¬ rs = ss from fun e => hl (by rw [e])))
    have hne : ((rs.length : Int) != (ss.length : Int)) = true := by rw [bne_iff_ne]; omega
    clear hl
    go_enter Try.func94, Try.ntmps94
    go_wp2
    go_ret
    exact ⟨ret_b HF.out.symm, Below.refl _ _⟩
set_option maxHeartbeats 2000000 in
set_option maxRecDepth 100000 in
theorem implEqualSpans (v u : Value) (rs ss : List SpanD) (w : World) (h : SpansR w v rs) (g : SpansR w u ss) (hs : zpL rs ≤ 1048576) (ht : zpL ss ≤ 1048576) :
    Calls Try.prog 60 #[v, u] w fun e w' => e = .returned (.bool (decide (rs = ss))) ∧ Below w.heap.size w w' := by
  have H := Lib.hid (fun w h g => spansFunc_any v u rs ss w h g hs ht)
  have HV := Lib.hid h
  have HU := Lib.hid g
  clear h g hs ht
  generalize decide (rs = ss) = r at *
  go_enter Try.func60, Try.ntmps60
  go_wp2_with fail
  refine (H.out _ HV.out HU.out).mono ?_
  rintro e w1 ⟨rfl, b1⟩
  go_wp2
  go_ret
  exact ⟨rfl, b1⟩
end Go.Proofs.Ytidhmgboknffkaa
namespace Go.Proofs.Ytidhmgboknffkaa
open Go.RowKit
set_option linter.unusedVariables false
set_option linter.unusedSimpArgs false
theorem lists_ne_at {α : Type} {d : α} {xs ys : List α} {k : Nat} (h : ¬ xs.getD k d = ys.getD k d) : ¬ xs = ys := fun e => h (by rw [e])
theorem lists_eq_all {α : Type} {d : α} {xs ys : List α} (hl : xs.length = ys.length) (h : ∀ j, j < xs.length → xs.getD j d = ys.getD j d) : xs = ys := by
  apply List.ext_getElem hl
  intro i h1 h2
  have := h i h1
  simpa [List.getD, h1, h2] using this
set_option maxHeartbeats 8000000 in
set_option maxRecDepth 100000 in
theorem fieldsFunc_any (v u : Value) (fs gs : List (List SpanD)) (w : World) (h : SlR tSpanS w v fs) (g : SlR tSpanS w u gs) (hs : zL tSpanS fs ≤ 1048576) (ht : zL tSpanS gs ≤ 1048576) :
    Calls Try.prog 59 #[v, u, .func (.func 60) #[] #[]] w fun e w' => e = .returned (.bool (decide (fs = gs))) ∧ Below w.heap.size w w' := by
  have H := Lib.hid h
  have G := Lib.hid g
  have HS := Lib.hid hs
  have HT := Lib.hid ht
  have hlen := zL_len hs
  have hlen2 := zL_len ht
  obtain ⟨a, cap, rfl⟩ := slR_len h
  obtain ⟨a2, cap2, rfl⟩ := slR_len g
  clear h g hs ht
  by_cases hl : fs.length = gs.length
  · have HL := Lib.hid hl
    have hne : ((fs.length : Int) != (gs.length : Int)) = false := by rw [hl]; simp
    clear hl
    go_enter Try.func59, Try.ntmps59
    go_wp2
    clear hne
    go_loopw [17] (fun i wr => ∃ k : Nat, k ≤ fs.length ∧ i = .int .i64 k ∧ Hid (∀ j, j < k → fs.getD j tSpanS.d = gs.getD j tSpanS.d) ∧ Below w.heap.size w wr) (fun i _ => fs.length - (intOf i).toNat)
    case atStart => exact ⟨0, Nat.zero_le _, rfl, Lib.hid (fun j hj => by omega), Below.refl _ _⟩
    case round =>
      obtain ⟨k, hk, rfl, hall, hbel⟩ := hrel
      by_cases hlt : k < fs.length
      · have hlt2 : k < gs.length := by have := HL.out; omega
        obtain ⟨b, off, cap', cs, hv, hbl, hcs, hR⟩ := slR_at (slR_below tSpanS_law H.out hbel) hlt
        simp only [Value.slice.injEq] at hv
        obtain ⟨rfl, _, rfl⟩ := hv
        obtain ⟨b2, off2, cap2', ds, hv2, hbl2, hds, hQ⟩ := slR_at (slR_below tSpanS_law G.out hbel) hlt2
        simp only [Value.slice.injEq] at hv2
        obtain ⟨rfl, _, rfl⟩ := hv2
        have hxl : zL tSpan (fs.getD k tSpanS.d) ≤ 1048576 := zL_at HS.out hlt
        have hyl : zL tSpan (gs.getD k tSpanS.d) ≤ 1048576 := zL_at HT.out hlt2
        have i1 : (0 : Int) ≤ (k : Int) := by omega
        have i2 : (k : Int) < (fs.length : Int) := by omega
        have i3 : (k : Int) < (gs.length : Int) := by omega
        have HNE := Lib.hid (fun e => decide_eq_false (lists_ne_at (d := tSpanS.d) (xs := fs) (ys := gs) (k := k) e))
        have HALL : Hid (fs.getD k tSpanS.d = gs.getD k tSpanS.d → ∀ j, j < k + 1 → fs.getD j tSpanS.d = gs.getD j tSpanS.d) := Lib.hid (fun he j hj => by
          by_cases e : j = k
          · exact e ▸ he
          · exact hall.out j (by omega))
        clear hall
        generalize fs.getD k tSpanS.d = r at *
        generalize gs.getD k tSpanS.d = q at *
        obtain ⟨u1, rfl, hI⟩ := hR
        obtain ⟨u2, rfl, hJ⟩ := hQ
        have p0 : wr.cell? ⟨b, off + k, none⟩ = some u1 := by have := hcs 0 Nat.one_pos; rw [show tSpanS.n = 1 from rfl, Nat.mul_one, Nat.add_zero] at this; exact this
        have p1 : wr.cell? ⟨b2, off2 + k, none⟩ = some u2 := by have := hds 0 Nat.one_pos; rw [show tSpanS.n = 1 from rfl, Nat.mul_one, Nat.add_zero] at this; exact this
        clear hcs hds
        obtain ⟨ra, rc, rfl⟩ := slR_len hI
        obtain ⟨qa, qc, rfl⟩ := slR_len hJ
        rw [zL_spans] at hxl hyl
        have HSM := Lib.hid (fun w h g => implEqualSpans (.slice ra r.length rc) (.slice qa q.length qc) r q w h g hxl hyl)
        have I0 := Lib.hid (slR_spans hI); have J0 := Lib.hid (slR_spans hJ)
        clear hI hJ hxl hyl
        by_cases he : r = q
        · have HA := Lib.hid (HALL.out he)
          rw [decide_eq_true he] at HSM
          clear he HNE HALL
          go_wp2_with fail
          refine (HSM.out _ I0.out J0.out).mono ?_
          rintro e w8 ⟨rfl, b9⟩
          have b11 := hbel.trans (b9.mono hbel.size)
          clear b9
          go_wp2
          go_roundw
          case rel => exact ⟨k + 1, by omega, by go_num, HA, b11⟩
          case measure => simp [intOf]; omega
        · have HF := Lib.hid (HNE.out he)
          rw [decide_eq_false he] at HSM
          clear he HNE HALL
          go_wp2_with fail
          refine (HSM.out _ I0.out J0.out).mono ?_
          rintro e w8 ⟨rfl, b9⟩
          have b11 := hbel.trans (b9.mono hbel.size)
          clear b9
          go_wp2
          go_ret
          exact ⟨ret_b HF.out.symm, b11⟩
      · obtain rfl : k = fs.length := by omega
        have HE := Lib.hid (decide_eq_true (lists_eq_all (d := tSpanS.d) HL.out hall.out))
        clear hall
        go_wp2
        go_ret
        exact ⟨ret_b HE.out.symm, hbel⟩
  · have HF := Lib.hid (decide_eq_false (show ¬ fs = gs from fun e => hl (by rw [e])))
    have hne : ((fs.length : Int) != (gs.length : Int)) = true := by rw [bne_iff_ne]; omega
    clear hl
    go_enter Try.func59, Try.ntmps59
    go_wp2
    go_ret
    exact ⟨ret_b HF.out.symm, Below.refl _ _⟩
end Go.Proofs.Ytidhmgboknffkaa
namespace Go.Proofs.Ytidhmgboknffkaa
open Go.RowKit
set_option linter.unusedVariables false
set_option linter.unusedSimpArgs false
def tIndex : Ty (List (Int × Int × List (Int × Int × Int) × List Int) × List (List (Int × Int × List Int))) := tPair tQueryS tSpanSS
theorem tIndex_law : tIndex.Law := tPair_law tQueryS_law tSpanSS_law
theorem tIndex_R {w : World} {cs : List Value} {x0 : List (Int × Int × List (Int × Int × Int) × List Int)} {x1 : List (List (Int × Int × List Int))} (h : tIndex.R w cs (x0, x1)) : ∃ v0 v1, cs = [v0, v1] ∧ SlR tQuery w v0 x0 ∧ SlR tSpanS w v1 x1 := by
  obtain ⟨_, _, rfl, ⟨v0, rfl, h0⟩, ⟨v1, rfl, h1⟩⟩ := h
  exact ⟨_, _, rfl, h0, h1⟩
theorem tIndex_O {w : World} {F : Nat → Prop} {cs : List Value} {x0 : List (Int × Int × List (Int × Int × Int) × List Int)} {x1 : List (List (Int × Int × List Int))} (h : tIndex.O w F cs (x0, x1)) : ∃ v0 v1, ∃ F0 F1 : Nat → Prop, cs = [v0, v1] ∧ SlO 73 tQuery w F0 v0 x0 ∧ SlO 55 tSpanS w F1 v1 x1 ∧ (∀ b, F0 b → F b) ∧ (∀ b, F1 b → F b) ∧ (∀ b, F0 b → ¬ F1 b) := by
  obtain ⟨_, _, F0_1, F0_2, rfl, ⟨v0, rfl, h0⟩, ⟨v1, rfl, h1⟩, s0_1, s0_2, d0⟩ := h
  exact ⟨v0, v1, F0_1, F0_2, rfl, h0, h1, fun b h => (s0_1 b h), fun b h => (s0_2 b h), fun b h h2 => d0 b h h2⟩
theorem tIndex_mkO {w : World} {F : Nat → Prop} {x0 : List (Int × Int × List (Int × Int × Int) × List Int)} {x1 : List (List (Int × Int × List Int))} {v0 v1 : Value} {F0 F1 : Nat → Prop} (h0 : SlO 73 tQuery w F0 v0 x0) (h1 : SlO 55 tSpanS w F1 v1 x1) (s0 : ∀ b, F0 b → F b) (s1 : ∀ b, F1 b → F b) (d0_1 : ∀ b, F0 b → ¬ F1 b) : tIndex.O w F [v0, v1] (x0, x1) := ⟨[v0], [v1], F0, F1, rfl, ⟨_, rfl, h0⟩, ⟨_, rfl, h1⟩, (fun b h => s0 b h), (fun b h => s1 b h), (fun b h g => d0_1 b h g)⟩
set_option maxHeartbeats 8000000 in
set_option maxRecDepth 100000 in
theorem szIndex_Y (v0 v1 : Value) (x0 : List (Int × Int × List (Int × Int × Int) × List Int)) (x1 : List (List (Int × Int × List Int))) (k0 : Int) (w : World) (h0 : SlR tQuery w v0 x0) (h1 : SlR tSpanS w v1 x1) (hs : ((zL tQuery x0 + zL tSpanS x1 : Nat) : Int) ≤ k0) (hk : k0 ≤ 1048576) :
    Calls Try.prog 18 #[.agg #[v0, v1], .int .i64 k0] w fun e w' => e = .returned (.int .i64 (k0 - ((zL tQuery x0 + zL tSpanS x1 : Nat) : Int))) ∧ Below w.heap.size w w' := by
  have H0 := Lib.hid h0
  have H1 := Lib.hid h1
  clear h0 h1
  have HZ0 : Hid (((zL tQuery x0 : Nat) : Int) ≤ k0) := Lib.hid (by omega)
  have HK0 : Hid (k0 ≤ 1048576) := Lib.hid (by omega)
  have hn0 : ¬ k0 - ((zL tQuery x0 : Nat) : Int) < 0 := by omega
  have HZ1 : Hid (((zL tSpanS x1 : Nat) : Int) ≤ k0 - ((zL tQuery x0 : Nat) : Int)) := Lib.hid (by omega)
  have HK1 : Hid (k0 - ((zL tQuery x0 : Nat) : Int) ≤ 1048576) := Lib.hid (by omega)
  have hn1 : ¬ k0 - ((zL tQuery x0 : Nat) : Int) - ((zL tSpanS x1 : Nat) : Int) < 0 := by omega
  have HE : Hid (k0 - ((zL tQuery x0 : Nat) : Int) - ((zL tSpanS x1 : Nat) : Int) = k0 - ((zL tQuery x0 + zL tSpanS x1 : Nat) : Int)) := Lib.hid (by omega)
  clear hs hk
  have hb : Below w.heap.size w (w.alloc (.cells #[v0, v1] 37)) := (Below.refl _ w).alloc (Nat.le_refl _) _
  have g0 : (w.alloc (.cells #[v0, v1] 37)).heap[w.heap.size]? = some (.cells #[v0, v1] 37 (0, 0)) := heap_alloc_new w _
  have hz0 : w.heap.size < (w.alloc (.cells #[v0, v1] 37)).heap.size := by simp
  go_enter Try.func18, Try.ntmps18
  go_wp2_with fail
  generalize (w.alloc (.cells #[v0, v1] 37)) = W at *
  refine (szQueryS_Y v0 x0 (k0) W (slR_below tQuery_law H0.out hb) HZ0.out HK0.out).mono ?_
  rintro e W1 ⟨rfl, b1⟩
  replace g0 := (b1.block w.heap.size hz0).trans g0
  replace hz0 := Nat.lt_of_lt_of_le hz0 b1.size
  replace hb := hb.trans (b1.mono hb.size)
  clear b1
  have p1 := (cell_of_row W1 _ 1 _ _ _ g0).trans (show _ = some (v1) from rfl)
  go_wp2_with fail
  clear p1
  refine (szSpanSS_Y v1 x1 (k0 - ((zL tQuery x0 : Nat) : Int)) W1 (slR_below tSpanS_law H1.out hb) HZ1.out HK1.out).mono ?_
  rintro e W2 ⟨rfl, b1⟩
  replace g0 := (b1.block w.heap.size hz0).trans g0
  replace hz0 := Nat.lt_of_lt_of_le hz0 b1.size
  replace hb := hb.trans (b1.mono hb.size)
  clear b1
  go_wp2
  go_ret
  exact ⟨ty_ret HE.out, hb⟩
set_option maxHeartbeats 8000000 in
set_option maxRecDepth 100000 in
theorem szIndex_N (v0 v1 : Value) (x0 : List (Int × Int × List (Int × Int × Int) × List Int)) (x1 : List (List (Int × Int × List Int))) (k0 : Int) (w : World) (h0 : SlR tQuery w v0 x0) (h1 : SlR tSpanS w v1 x1) (hs : k0 < ((zL tQuery x0 + zL tSpanS x1 : Nat) : Int)) (hk : k0 ≤ 1048576) (hp : 0 ≤ k0) (o0 : tQueryS.ok x0) (o1 : tSpanSS.ok x1) :
    Calls Try.prog 18 #[.agg #[v0, v1], .int .i64 k0] w fun e w' => e = .returned (.int .i64 (-1)) ∧ Below w.heap.size w w' := by
  have H0 := Lib.hid h0
  have H1 := Lib.hid h1
  clear h0 h1
  have HO0 := Lib.hid o0
  have HO1 := Lib.hid o1
  clear o0 o1
  by_cases c0 : k0 < ((zL tQuery x0 : Nat) : Int)
  · have HZ0 : Hid (k0 < ((zL tQuery x0 : Nat) : Int)) := Lib.hid (by omega)
    have HP0 : Hid (0 ≤ k0) := Lib.hid (by omega)
    have HK0 : Hid (k0 ≤ 1048576) := Lib.hid (by omega)
    clear hs hk
    clear c0 hp
    have hb : Below w.heap.size w (w.alloc (.cells #[v0, v1] 37)) := (Below.refl _ w).alloc (Nat.le_refl _) _
    have g0 : (w.alloc (.cells #[v0, v1] 37)).heap[w.heap.size]? = some (.cells #[v0, v1] 37 (0, 0)) := heap_alloc_new w _
    have hz0 : w.heap.size < (w.alloc (.cells #[v0, v1] 37)).heap.size := by simp
    go_enter Try.func18, Try.ntmps18
    go_wp2_with fail
    generalize (w.alloc (.cells #[v0, v1] 37)) = W at *
    refine (szQueryS_N v0 x0 (k0) W (slR_below tQuery_law H0.out hb) HZ0.out HK0.out HP0.out HO0.out).mono ?_
    rintro e W1 ⟨rfl, b1⟩
    replace g0 := (b1.block w.heap.size hz0).trans g0
    replace hz0 := Nat.lt_of_lt_of_le hz0 b1.size
    replace hb := hb.trans (b1.mono hb.size)
    clear b1
    go_wp2
    go_ret
    exact ⟨rfl, hb⟩
  ·
    have HZ0 : Hid (((zL tQuery x0 : Nat) : Int) ≤ k0) := Lib.hid (by omega)
    have hn0 : ¬ k0 - ((zL tQuery x0 : Nat) : Int) < 0 := by omega
    have HK0 : Hid (k0 ≤ 1048576) := Lib.hid (by omega)
    have HZ1 : Hid (k0 - ((zL tQuery x0 : Nat) : Int) < ((zL tSpanS x1 : Nat) : Int)) := Lib.hid (by omega)
    have HP1 : Hid (0 ≤ k0 - ((zL tQuery x0 : Nat) : Int)) := Lib.hid (by omega)
    have HK1 : Hid (k0 - ((zL tQuery x0 : Nat) : Int) ≤ 1048576) := Lib.hid (by omega)
    clear hs hk
    clear hp c0
    have hb : Below w.heap.size w (w.alloc (.cells #[v0, v1] 37)) := (Below.refl _ w).alloc (Nat.le_refl _) _
    have g0 : (w.alloc (.cells #[v0, v1] 37)).heap[w.heap.size]? = some (.cells #[v0, v1] 37 (0, 0)) := heap_alloc_new w _
    have hz0 : w.heap.size < (w.alloc (.cells #[v0, v1] 37)).heap.size := by simp
    go_enter Try.func18, Try.ntmps18
    go_wp2_with fail
    generalize (w.alloc (.cells #[v0, v1] 37)) = W at *
    refine (szQueryS_Y v0 x0 (k0) W (slR_below tQuery_law H0.out hb) HZ0.out HK0.out).mono ?_
    rintro e W1 ⟨rfl, b1⟩
    replace g0 := (b1.block w.heap.size hz0).trans g0
    replace hz0 := Nat.lt_of_lt_of_le hz0 b1.size
    replace hb := hb.trans (b1.mono hb.size)
    clear b1
    have p1 := (cell_of_row W1 _ 1 _ _ _ g0).trans (show _ = some (v1) from rfl)
    go_wp2_with fail
    clear p1
    refine (szSpanSS_N v1 x1 (k0 - ((zL tQuery x0 : Nat) : Int)) W1 (slR_below tSpanS_law H1.out hb) HZ1.out HK1.out HP1.out HO1.out).mono ?_
    rintro e W2 ⟨rfl, b1⟩
    replace g0 := (b1.block w.heap.size hz0).trans g0
    replace hz0 := Nat.lt_of_lt_of_le hz0 b1.size
    replace hb := hb.trans (b1.mono hb.size)
    clear b1
    go_wp2
    go_ret
    exact ⟨rfl, hb⟩
set_option maxHeartbeats 8000000 in
set_option maxRecDepth 100000 in
theorem toIndex_T (v0 v1 : Value) (x0 : List (Int × Int × List (Int × Int × Int) × List Int)) (x1 : List (List (Int × Int × List Int))) (w : World) (h0 : SlR tQuery w v0 x0) (h1 : SlR tSpanS w v1 x1) (s0 : zL tQuery x0 ≤ 1048576) (s1 : zL tSpanS x1 ≤ 1048576) :
    Calls Try.prog 20 #[.agg #[v0, v1]] w (FreshT tIndex (fun cs => .agg cs.toArray) w (x0, x1)) := by
  have H0 := Lib.hid h0
  have H1 := Lib.hid h1
  clear h0 h1
  have S0 := Lib.hid s0
  have S1 := Lib.hid s1
  clear s0 s1
  go_enter Try.func20, Try.ntmps20
  go_wp2_with fail
  have hb : Below w.heap.size w (((w.alloc (.cells #[v0, v1] 37)).alloc (.cells #[.slice none 0 0, .slice none 0 0] 27)).alloc (.cells #[.slice none 0 0, .slice none 0 0] 27)) := (((Below.refl _ w).alloc (Nat.le_refl _) _).alloc (by simp) _).alloc (by simp; omega) _
  have g2 : (((w.alloc (.cells #[v0, v1] 37)).alloc (.cells #[.slice none 0 0, .slice none 0 0] 27)).alloc (.cells #[.slice none 0 0, .slice none 0 0] 27)).heap[w.heap.size + 1 + 1]? = some (.cells #[.slice none 0 0, .slice none 0 0] 27 (0, 0)) := by
    have := heap_alloc_new ((w.alloc (.cells #[v0, v1] 37)).alloc (.cells #[.slice none 0 0, .slice none 0 0] 27)) (.cells #[.slice none 0 0, .slice none 0 0] 27)
    simpa only [World.size_alloc] using this
  have g1 : (((w.alloc (.cells #[v0, v1] 37)).alloc (.cells #[.slice none 0 0, .slice none 0 0] 27)).alloc (.cells #[.slice none 0 0, .slice none 0 0] 27)).heap[w.heap.size + 1]? = some (.cells #[.slice none 0 0, .slice none 0 0] 27 (0, 0)) := by
    have := heap_alloc_new (w.alloc (.cells #[v0, v1] 37)) (.cells #[.slice none 0 0, .slice none 0 0] 27)
    rw [Below.heap_alloc _ _ _ (by simp)]
    simpa only [World.size_alloc] using this
  have g0 : (((w.alloc (.cells #[v0, v1] 37)).alloc (.cells #[.slice none 0 0, .slice none 0 0] 27)).alloc (.cells #[.slice none 0 0, .slice none 0 0] 27)).heap[w.heap.size]? = some (.cells #[v0, v1] 37 (0, 0)) := by
    rw [Below.heap_alloc _ _ _ (by simp; omega), Below.heap_alloc _ _ _ (by simp)]
    exact heap_alloc_new w _
  have hz : w.heap.size + 2 < (((w.alloc (.cells #[v0, v1] 37)).alloc (.cells #[.slice none 0 0, .slice none 0 0] 27)).alloc (.cells #[.slice none 0 0, .slice none 0 0] 27)).heap.size := by simp [World.size_alloc]
  generalize (((w.alloc (.cells #[v0, v1] 37)).alloc (.cells #[.slice none 0 0, .slice none 0 0] 27)).alloc (.cells #[.slice none 0 0, .slice none 0 0] 27)) = W at *
  refine (toQueryS_S v0 x0 W (slR_below tQuery_law H0.out hb) S0.out).mono ?_
  rintro e w1 ⟨u0, rfl, o0, b1⟩
  obtain ⟨ua0, uc0, rfl⟩ := slO_len o0
  replace o0 := slO_mono (slO_lt tQuery_law o0) (F' := fun b => W.heap.size ≤ b ∧ b < w1.heap.size) (fun b h => h)
  replace g0 := (b1.block _ (by omega)).trans g0
  replace g1 := (b1.block _ (by omega)).trans g1
  replace g2 := (b1.block _ (by omega)).trans g2
  have zz1 := b1.size
  replace hb := hb.trans (b1.mono (by omega))
  clear b1
  have c2_0 := (cell_of_row w1 _ 0 _ _ _ g2).trans (show _ = some (Value.slice none 0 0) from rfl)
  have f2_0 := frozen_of_row w1 _ 0 _ _ g2
  have ne1 : ¬ w.heap.size = w.heap.size + 1 + 1 := by omega
  have ne2 : ¬ w.heap.size + 1 = w.heap.size + 1 + 1 := by omega
  have ne3 : ¬ w.heap.size + 1 + 1 = w.heap.size + 1 := by omega
  have c0_1 := (cell_of_row w1 _ 1 _ _ _ g0).trans (show _ = some (v1) from rfl)
  have l0_1 : (w1.setCell ⟨w.heap.size + 1 + 1, 0, none⟩ (.slice ua0 x0.length uc0)).cell? ⟨w.heap.size, 1, none⟩ = some (v1) := by
    have m : (w1.setCell ⟨w.heap.size + 1 + 1, 0, none⟩ (.slice ua0 x0.length uc0)).heap[w.heap.size]? = some (.cells #[v0, v1] 37 (0, 0)) := by
      repeat rw [heap_setCell_other _ _ _ _ (by simp <;> omega)]
      exact g0
    exact (cell_of_row _ _ 1 _ _ _ m).trans rfl
  go_wp2_with fail
  clear c2_0 f2_0 ne1 ne2 ne3 c0_1 l0_1
  have hw : Turn (fun b => b = w.heap.size + 1 + 1) w1 (w1.setCell ⟨w.heap.size + 1 + 1, 0, none⟩ (.slice ua0 x0.length uc0)) := by
    first | exact ((Turn.refl _ _).trans (turn_set (g := w.heap.size + 1 + 1) (j := 0) (u := .slice ua0 x0.length uc0) rfl)) | skip
  replace g0 := (hw.block _ (by omega) (by omega)).trans g0
  replace g1 := (hw.block _ (by omega) (by omega)).trans g1
  have g2n := (heap_setCell_same _ (w.heap.size + 1 + 1) 0 _ _ (.slice ua0 x0.length uc0) g2)
  replace g2 : (w1.setCell ⟨w.heap.size + 1 + 1, 0, none⟩ (.slice ua0 x0.length uc0)).heap[w.heap.size + 1 + 1]? = some (.cells #[.slice ua0 x0.length uc0, .slice none 0 0] 27 (0, 0)) := by simpa using g2n
  clear g2n
  replace o0 := slO_turn tQuery_law o0 hw (fun b h1 h2 => by have := h1.1; omega)
  replace hb := below_turn hb hw (fun b h => by omega) (by omega)
  have hz0 := hw.size
  clear hw
  generalize (w1.setCell ⟨w.heap.size + 1 + 1, 0, none⟩ (.slice ua0 x0.length uc0)) = W1 at *
  refine (toSpanSS_S v1 x1 W1 (slR_below tSpanS_law H1.out hb) S1.out).mono ?_
  rintro e w2 ⟨u1, rfl, o1, b1⟩
  obtain ⟨ua1, uc1, rfl⟩ := slO_len o1
  replace o1 := slO_mono (slO_lt tSpanS_law o1) (F' := fun b => W1.heap.size ≤ b ∧ b < w2.heap.size) (fun b h => h)
  replace g0 := (b1.block _ (by omega)).trans g0
  replace g1 := (b1.block _ (by omega)).trans g1
  replace g2 := (b1.block _ (by omega)).trans g2
  replace o0 := slO_fresh tQuery_law o0 b1
  have zz2 := b1.size
  replace hb := hb.trans (b1.mono (by omega))
  clear b1
  have c2_0 := (cell_of_row w2 _ 0 _ _ _ g2).trans (show _ = some (Value.slice ua0 x0.length uc0) from rfl)
  have f2_0 := frozen_of_row w2 _ 0 _ _ g2
  have c2_1 := (cell_of_row w2 _ 1 _ _ _ g2).trans (show _ = some (Value.slice none 0 0) from rfl)
  have f2_1 := frozen_of_row w2 _ 1 _ _ g2
  have ne1 : ¬ w.heap.size = w.heap.size + 1 + 1 := by omega
  have ne2 : ¬ w.heap.size + 1 = w.heap.size + 1 + 1 := by omega
  have ne3 : ¬ w.heap.size + 1 + 1 = w.heap.size + 1 := by omega
  have c1_0 := (cell_of_row w2 _ 0 _ _ _ g1).trans (show _ = some (Value.slice none 0 0) from rfl)
  have f1_0 := frozen_of_row w2 _ 0 _ _ g1
  have c1_1 := (cell_of_row w2 _ 1 _ _ _ g1).trans (show _ = some (Value.slice none 0 0) from rfl)
  have f1_1 := frozen_of_row w2 _ 1 _ _ g1
  go_wp2
  clear c2_0 f2_0 c2_1 f2_1 ne1 ne2 ne3 c1_0 f1_0 c1_1 f1_1
  have hw : Turn (fun b => b = w.heap.size + 1 ∨ b = w.heap.size + 1 + 1) w2 (((w2.setCell ⟨w.heap.size + 1 + 1, 1, none⟩ (.slice ua1 x1.length uc1)).setCell ⟨w.heap.size + 1, 0, none⟩ (.slice ua0 x0.length uc0)).setCell ⟨w.heap.size + 1, 1, none⟩ (.slice ua1 x1.length uc1)) := by
    first | exact ((((Turn.refl _ _).trans (turn_set (g := w.heap.size + 1 + 1) (j := 1) (u := .slice ua1 x1.length uc1) (Or.inr rfl))).trans (turn_set (g := w.heap.size + 1) (j := 0) (u := .slice ua0 x0.length uc0) (Or.inl rfl))).trans (turn_set (g := w.heap.size + 1) (j := 1) (u := .slice ua1 x1.length uc1) (Or.inl rfl))) | skip
  have r := (heap_setCell_same _ (w.heap.size + 1) 1 _ _ (.slice ua1 x1.length uc1) (heap_setCell_same _ (w.heap.size + 1) 0 _ _ (.slice ua0 x0.length uc0) ((heap_setCell_other _ ⟨w.heap.size + 1 + 1, 1, none⟩ (w.heap.size + 1) (.slice ua1 x1.length uc1) (by simp)).trans g1)))
  have e0 := cell_of_row _ _ 0 _ _ _ r
  have e1 := cell_of_row _ _ 1 _ _ _ r
  simp at e0 e1
  replace o0 := slO_turn tQuery_law o0 hw (fun b h1 h2 => by have := h1.1; omega)
  replace o1 := slO_turn tSpanS_law o1 hw (fun b h1 h2 => by have := h1.1; omega)
  replace hb := below_turn hb hw (fun b h => by omega) (by omega)
  refine bodyPost_ret (v := .agg #[.slice ua0 x0.length uc0, .slice ua1 x1.length uc1]) ?_ rfl ?_
  · simp [results, Try.f20, go_sem, e0, e1]
  · exact ⟨[.slice ua0 x0.length uc0, .slice ua1 x1.length uc1], rfl, tIndex_mkO o0 o1 (fun b h => by show w.heap.size ≤ b; have := h.1; omega) (fun b h => by show w.heap.size ≤ b; have := h.1; omega) (fun b h1 h2 => by have := h1.1; have := h1.2; have := h2.1; have := h2.2; omega), hb⟩
set_option maxHeartbeats 8000000 in
set_option maxRecDepth 100000 in
theorem eqIndex_T (v0 v1 : Value) (x0 : List (Int × Int × List (Int × Int × Int) × List Int)) (x1 : List (List (Int × Int × List Int))) (u0 u1 : Value) (w : World) (h0 : SlR tQuery w v0 x0) (h1 : SlR tSpanS w v1 x1) (g0 : SlR tQuery w u0 x0) (g1 : SlR tSpanS w u1 x1) (s0 : zL tQuery x0 ≤ 1048576) (s1 : zL tSpanS x1 ≤ 1048576) :
    Calls Try.prog 13 #[.agg #[v0, v1], .agg #[u0, u1]] w fun e w' => e = .returned (.bool true) ∧ Below w.heap.size w w' := by
  have H0 := Lib.hid h0; have G0 := Lib.hid g0; have S0 := Lib.hid s0
  have H1 := Lib.hid h1; have G1 := Lib.hid g1; have S1 := Lib.hid s1
  clear h0 g0 s0 h1 g1 s1
  go_enter Try.func13, Try.ntmps13
  go_wp2_with fail
  have hb : Below w.heap.size w ((w.alloc (.cells #[v0, v1] 27)).alloc (.cells #[u0, u1] 27)) := ((Below.refl _ w).alloc (Nat.le_refl _) _).alloc (by simp) _
  have g1 : ((w.alloc (.cells #[v0, v1] 27)).alloc (.cells #[u0, u1] 27)).heap[w.heap.size + 1]? = some (.cells #[u0, u1] 27 (0, 0)) := by
    have := heap_alloc_new (w.alloc (.cells #[v0, v1] 27)) (.cells #[u0, u1] 27)
    simpa only [World.size_alloc] using this
  have g0 : ((w.alloc (.cells #[v0, v1] 27)).alloc (.cells #[u0, u1] 27)).heap[w.heap.size]? = some (.cells #[v0, v1] 27 (0, 0)) := by
    rw [Below.heap_alloc _ _ _ (by simp)]
    exact heap_alloc_new w _
  have hz : w.heap.size + 1 < ((w.alloc (.cells #[v0, v1] 27)).alloc (.cells #[u0, u1] 27)).heap.size := by simp [World.size_alloc]
  generalize ((w.alloc (.cells #[v0, v1] 27)).alloc (.cells #[u0, u1] 27)) = W at *
  refine (eqQueryS_S v0 u0 x0 W (slR_below tQuery_law H0.out hb) (slR_below tQuery_law G0.out hb) S0.out).mono ?_
  rintro e w1 ⟨rfl, b1⟩
  replace g0 := (b1.block _ (by omega)).trans g0
  replace g1 := (b1.block _ (by omega)).trans g1
  have zz0 := b1.size
  replace hb := hb.trans (b1.mono (by omega))
  clear b1
  have p0_1 := (cell_of_row w1 _ 1 _ _ _ g0).trans (show _ = some (v1) from rfl)
  have p1_1 := (cell_of_row w1 _ 1 _ _ _ g1).trans (show _ = some (u1) from rfl)
  go_wp2_with fail
  clear p0_1 p1_1
  refine (eqSpanSS_S v1 u1 x1 w1 (slR_below tSpanS_law H1.out hb) (slR_below tSpanS_law G1.out hb) S1.out).mono ?_
  rintro e w2 ⟨rfl, b1⟩
  replace g0 := (b1.block _ (by omega)).trans g0
  replace g1 := (b1.block _ (by omega)).trans g1
  have zz1 := b1.size
  replace hb := hb.trans (b1.mono (by omega))
  clear b1
  go_wp2
  go_ret
  exact ⟨rfl, hb⟩
end Go.Proofs.Ytidhmgboknffkaa
namespace Go.Proofs.Ytidhmgboknffkaa
open Go.RowKit
set_option linter.unusedVariables false
set_option linter.unusedSimpArgs false
theorem sum_all_le {α : Type} {f : α → Nat} {M : Nat} : ∀ (xs : List α), (∀ x ∈ xs, f x ≤ M) → (xs.map f).sum ≤ xs.length * M
  | [], _ => by simp
  | x :: xs, h => by
    have h1 := sum_all_le xs (fun y hy => h y (List.mem_cons_of_mem _ hy))
    have h2 := h x (List.mem_cons_self ..)
    rw [List.length_cons, Nat.add_mul, Nat.one_mul, List.map_cons, List.sum_cons]
    omega
theorem zL_le {α : Type} {T : Ty α} {xs : List α} {M : Nat} (h : ∀ x ∈ xs, T.sz x ≤ M) : zL T xs ≤ xs.length * (1 + M) := by
  have h1 := sum_all_le xs h
  show xs.length + ((xs.take xs.length).map T.sz).sum ≤ _
  rw [List.take_length, Nat.mul_add, Nat.mul_one]
  omega
end Go.Proofs.Ytidhmgboknffkaa
namespace Go.Proofs.Ytidhmgboknffkaa
open Go.RowKit
set_option linter.unusedVariables false
set_option linter.unusedSimpArgs false
theorem fld_zL (qs : List QD) : zL tSpanS (fldTo qs 3) ≤ 1048576 := by
  have h : zL tSpanS (fldTo qs 3) ≤ (fldTo qs 3).length * (1 + 2500) := by
    apply zL_le
    intro l hlm
    obtain ⟨f, _, rfl⟩ := List.mem_map.1 hlm
    show zL tSpan _ ≤ _
    rw [zL_spans]
    exact spansL_size qs (f : Int)
  rw [fldTo_len] at h
  omega
theorem isIdx_isnt {qs : List QD} {fs : List (List SpanD)} (h : areQB qs = false) : isIndexB qs fs = false := by unfold isIndexB; rw [h]; rfl
theorem isIdx_is {qs : List QD} {fs : List (List SpanD)} (h : areQB qs = true) : isIndexB qs fs = decide (fs = fldTo qs 3) := by unfold isIndexB; rw [h, Bool.true_and]
set_option maxHeartbeats 16000000 in
set_option maxRecDepth 100000 in
theorem implIsIndex (qv fv : Value) (qs : List QD) (fs : List (List SpanD)) (w : World) (h1 : SlR tQuery w qv qs) (h2 : SlR tSpanS w fv fs) (hs : zL tQuery qs ≤ 1048576) (hz : zL tSpanS fs ≤ 1048576) :
    Calls Try.prog 21 #[.agg #[qv, fv]] w fun e w' => e = .returned (.bool (isIndexB qs fs)) ∧ Below w.heap.size w w' := by
  have HSQ : Hid (szQL qs ≤ 1048576) := Lib.hid (by rw [← zL_queries]; exact hs)
  have HZF := Lib.hid hz
  have hlen := zL_len hs
  have hlen2 := zL_len hz
  obtain ⟨qa, qc, rfl⟩ := slR_len h1
  obtain ⟨fa, fc, rfl⟩ := slR_len h2
  have d := Lib.hid ((Below.refl w.heap.size w).alloc (Nat.le_refl _) (.cells #[.slice qa qs.length qc, .slice fa fs.length fc] 27))
  have B0 : Hid ((w.alloc (.cells #[.slice qa qs.length qc, .slice fa fs.length fc] 27)).heap[w.heap.size]? = some (.cells #[.slice qa qs.length qc, .slice fa fs.length fc] 27 (0, 0))) := Lib.hid (heap_alloc_new w _)
  have H1 := Lib.hid h1
  have H2 := Lib.hid h2
  have HA := Lib.hid (fun w h => implAreQueries (.slice qa qs.length qc) qs w h HSQ.out)
  clear h1 h2 hs hz
  cases hq : areQB qs with
  | false =>
    have HE := Lib.hid (isIdx_isnt (fs := fs) hq)
    rw [hq] at HA
    clear hq
    go_enter Try.func21, Try.ntmps21
    go_wp2
    generalize w.alloc (.cells #[.slice qa qs.length qc, .slice fa fs.length fc] 27) = W at *
    have p_B0_0 := (cell_of_row W _ 0 _ _ _ B0.out).trans (show _ = some (Value.slice qa qs.length qc) from rfl)
    have p_B0_1 := (cell_of_row W _ 1 _ _ _ B0.out).trans (show _ = some (Value.slice fa fs.length fc) from rfl)
    refine wp_region_held_drew (S := fun w' => w'.cell? ⟨w.heap.size, 0, none⟩ = some (Value.slice qa qs.length qc) ∧ w'.cell? ⟨w.heap.size, 1, none⟩ = some (Value.slice fa fs.length fc)) (by kernel_rfl) ⟨p_B0_0, p_B0_1⟩ (fun hHeld => ?_)
    clear p_B0_0 p_B0_1
    have cdr : Below W.heap.size W W.drew := below_drew (Below.refl _ _)
    replace B0 := Lib.hid ((cdr.block w.heap.size (Array.getElem?_eq_some_iff.1 B0.out).1).trans B0.out)
    replace d := Lib.hid (d.out.trans (cdr.mono d.out.size))
    clear cdr
    refine take_runs (i := 0) (v := ?_) (by simp only [List.getElem?_toArray, List.getElem?_cons_succ, List.getElem?_cons_zero]; rfl) (by kernel_rfl) (by kernel_rfl) (by kernel_rfl) rfl (by exact fun _ _ _ h => h) (by rfl) ?_ (by assumption) ?_
    rotate_left
    · intro w hSw; (try dsimp only at hSw); go_simp; try (with_reducible rfl)
    try simp only [Act.put, List.setIfInBounds_toArray, List.set_cons_zero, List.set_cons_succ]
    refine take_runs (i := 1) (v := ?_) (by simp only [List.getElem?_toArray, List.getElem?_cons_succ, List.getElem?_cons_zero]; rfl) (by kernel_rfl) (by kernel_rfl) (by kernel_rfl) rfl (by exact fun _ _ _ h => h) (by rfl) ?_ (by assumption) ?_
    rotate_left
    · intro w hSw; (try dsimp only at hSw); go_simp; try (with_reducible rfl)
    try simp only [Act.put, List.setIfInBounds_toArray, List.set_cons_zero, List.set_cons_succ]
    refine wpAnyH_ready (rs := [2]) (by kernel_rfl) (by simp) ?_
    refine (AllReadyH.cons (o := _) (by simp only [List.getElem?_toArray, List.getElem?_cons_succ, List.getElem?_cons_zero]; rfl) (fun K hK => ?_) AllReadyH.nil)
    go_simp
    refine (HA.out (W.drew) (slR_queries (slR_below tQuery_law H1.out d.out))).mono ?_
    rintro e w4 ⟨rfl, c4⟩
    replace B0 := Lib.hid ((c4.block w.heap.size (Array.getElem?_eq_some_iff.1 B0.out).1).trans B0.out)
    replace d := Lib.hid (d.out.trans (c4.mono d.out.size))
    have Z_w4 := Lib.hid (show W.heap.size ≤ w4.heap.size from c4.size)
    clear c4
    have p_B0_0 := (cell_of_row w4 _ 0 _ _ _ B0.out).trans (show _ = some (Value.slice qa qs.length qc) from rfl)
    have p_B0_1 := (cell_of_row w4 _ 1 _ _ _ B0.out).trans (show _ = some (Value.slice fa fs.length fc) from rfl)
    refine hK.out _ _ ⟨p_B0_0, p_B0_1⟩ (fun hHeld => ?_)
    clear p_B0_0 p_B0_1
    clear hK K
    try simp only [Act.put, List.setIfInBounds_toArray, List.set_cons_zero, List.set_cons_succ]
    refine take_runs (i := 3) (v := ?_) (by simp only [List.getElem?_toArray, List.getElem?_cons_succ, List.getElem?_cons_zero]; rfl) (by kernel_rfl) (by kernel_rfl) (by kernel_rfl) rfl (by exact fun _ _ _ h => h) (by rfl) ?_ (by assumption) ?_
    rotate_left
    · intro w hSw; (try dsimp only at hSw); go_simp; try (with_reducible rfl)
    try simp only [Act.put, List.setIfInBounds_toArray, List.set_cons_zero, List.set_cons_succ]
    refine take_over (i := 4) (by simp only [List.getElem?_toArray, List.getElem?_cons_succ, List.getElem?_cons_zero]; rfl) (by kernel_rfl) (by kernel_rfl) (by kernel_rfl) rfl (by exact fun _ _ _ h => h) (by rfl) (by assumption) ?_
    try simp only [Act.put, List.setIfInBounds_toArray, List.set_cons_zero, List.set_cons_succ]
    refine take_over (i := 5) (by simp only [List.getElem?_toArray, List.getElem?_cons_succ, List.getElem?_cons_zero]; rfl) (by kernel_rfl) (by kernel_rfl) (by kernel_rfl) rfl (by exact fun _ _ _ h => h) (by rfl) (by assumption) ?_
    try simp only [Act.put, List.setIfInBounds_toArray, List.set_cons_zero, List.set_cons_succ]
    refine take_over (i := 6) (by simp only [List.getElem?_toArray, List.getElem?_cons_succ, List.getElem?_cons_zero]; rfl) (by kernel_rfl) (by kernel_rfl) (by kernel_rfl) rfl (by exact fun _ _ _ h => h) (by rfl) (by assumption) ?_
    try simp only [Act.put, List.setIfInBounds_toArray, List.set_cons_zero, List.set_cons_succ]
    refine take_over (i := 7) (by simp only [List.getElem?_toArray, List.getElem?_cons_succ, List.getElem?_cons_zero]; rfl) (by kernel_rfl) (by kernel_rfl) (by kernel_rfl) rfl (by exact fun _ _ _ h => h) (by rfl) (by assumption) ?_
    try simp only [Act.put, List.setIfInBounds_toArray, List.set_cons_zero, List.set_cons_succ]
    refine take_over (i := 8) (by simp only [List.getElem?_toArray, List.getElem?_cons_succ, List.getElem?_cons_zero]; rfl) (by kernel_rfl) (by kernel_rfl) (by kernel_rfl) rfl (by exact fun _ _ _ h => h) (by rfl) (by assumption) ?_
    try simp only [Act.put, List.setIfInBounds_toArray, List.set_cons_zero, List.set_cons_succ]
    refine take_over (i := 9) (by simp only [List.getElem?_toArray, List.getElem?_cons_succ, List.getElem?_cons_zero]; rfl) (by kernel_rfl) (by kernel_rfl) (by kernel_rfl) rfl (by exact fun _ _ _ h => h) (by rfl) (by assumption) ?_
    try simp only [Act.put, List.setIfInBounds_toArray, List.set_cons_zero, List.set_cons_succ]
    refine take_runs (i := 10) (v := ?_) (by simp only [List.getElem?_toArray, List.getElem?_cons_succ, List.getElem?_cons_zero]; rfl) (by kernel_rfl) (by kernel_rfl) (by kernel_rfl) rfl (by exact fun _ _ _ h => h) (by rfl) ?_ (by assumption) ?_
    rotate_left
    · intro w hSw; (try dsimp only at hSw); go_simp; try (with_reducible rfl)
    try simp only [Act.put, List.setIfInBounds_toArray, List.set_cons_zero, List.set_cons_succ]
    refine take_runs (i := 11) (v := ?_) (by simp only [List.getElem?_toArray, List.getElem?_cons_succ, List.getElem?_cons_zero]; rfl) (by kernel_rfl) (by kernel_rfl) (by kernel_rfl) rfl (by exact fun _ _ _ h => h) (by rfl) ?_ (by assumption) ?_
    rotate_left
    · intro w hSw; (try dsimp only at hSw); go_simp; try (with_reducible rfl)
    try simp only [Act.put, List.setIfInBounds_toArray, List.set_cons_zero, List.set_cons_succ]
    refine wpAnyH_done (by kernel_rfl) ?_ _
    clear hHeld
    go_wp2
    go_ret
    exact ⟨ret_b HE.out.symm, d.out⟩
  | true =>
    have HE := Lib.hid (isIdx_is (fs := fs) hq)
    rw [hq] at HA
    clear hq
    go_enter Try.func21, Try.ntmps21
    go_wp2
    generalize w.alloc (.cells #[.slice qa qs.length qc, .slice fa fs.length fc] 27) = W at *
    have p_B0_0 := (cell_of_row W _ 0 _ _ _ B0.out).trans (show _ = some (Value.slice qa qs.length qc) from rfl)
    have p_B0_1 := (cell_of_row W _ 1 _ _ _ B0.out).trans (show _ = some (Value.slice fa fs.length fc) from rfl)
    refine wp_region_held_drew (S := fun w' => w'.cell? ⟨w.heap.size, 0, none⟩ = some (Value.slice qa qs.length qc) ∧ w'.cell? ⟨w.heap.size, 1, none⟩ = some (Value.slice fa fs.length fc)) (by kernel_rfl) ⟨p_B0_0, p_B0_1⟩ (fun hHeld => ?_)
    clear p_B0_0 p_B0_1
    have cdr : Below W.heap.size W W.drew := below_drew (Below.refl _ _)
    replace B0 := Lib.hid ((cdr.block w.heap.size (Array.getElem?_eq_some_iff.1 B0.out).1).trans B0.out)
    replace d := Lib.hid (d.out.trans (cdr.mono d.out.size))
    clear cdr
    refine take_runs (i := 0) (v := ?_) (by simp only [List.getElem?_toArray, List.getElem?_cons_succ, List.getElem?_cons_zero]; rfl) (by kernel_rfl) (by kernel_rfl) (by kernel_rfl) rfl (by exact fun _ _ _ h => h) (by rfl) ?_ (by assumption) ?_
    rotate_left
    · intro w hSw; (try dsimp only at hSw); go_simp; try (with_reducible rfl)
    try simp only [Act.put, List.setIfInBounds_toArray, List.set_cons_zero, List.set_cons_succ]
    refine take_runs (i := 1) (v := ?_) (by simp only [List.getElem?_toArray, List.getElem?_cons_succ, List.getElem?_cons_zero]; rfl) (by kernel_rfl) (by kernel_rfl) (by kernel_rfl) rfl (by exact fun _ _ _ h => h) (by rfl) ?_ (by assumption) ?_
    rotate_left
    · intro w hSw; (try dsimp only at hSw); go_simp; try (with_reducible rfl)
    try simp only [Act.put, List.setIfInBounds_toArray, List.set_cons_zero, List.set_cons_succ]
    refine wpAnyH_ready (rs := [2]) (by kernel_rfl) (by simp) ?_
    refine (AllReadyH.cons (o := _) (by simp only [List.getElem?_toArray, List.getElem?_cons_succ, List.getElem?_cons_zero]; rfl) (fun K hK => ?_) AllReadyH.nil)
    go_simp
    refine (HA.out (W.drew) (slR_queries (slR_below tQuery_law H1.out d.out))).mono ?_
    rintro e w4 ⟨rfl, c4⟩
    replace B0 := Lib.hid ((c4.block w.heap.size (Array.getElem?_eq_some_iff.1 B0.out).1).trans B0.out)
    replace d := Lib.hid (d.out.trans (c4.mono d.out.size))
    have Z_w4 := Lib.hid (show W.heap.size ≤ w4.heap.size from c4.size)
    clear c4
    have p_B0_0 := (cell_of_row w4 _ 0 _ _ _ B0.out).trans (show _ = some (Value.slice qa qs.length qc) from rfl)
    have p_B0_1 := (cell_of_row w4 _ 1 _ _ _ B0.out).trans (show _ = some (Value.slice fa fs.length fc) from rfl)
    refine hK.out _ _ ⟨p_B0_0, p_B0_1⟩ (fun hHeld => ?_)
    clear p_B0_0 p_B0_1
    clear hK K
    try simp only [Act.put, List.setIfInBounds_toArray, List.set_cons_zero, List.set_cons_succ]
    refine take_runs (i := 3) (v := ?_) (by simp only [List.getElem?_toArray, List.getElem?_cons_succ, List.getElem?_cons_zero]; rfl) (by kernel_rfl) (by kernel_rfl) (by kernel_rfl) rfl (by exact fun _ _ _ h => h) (by rfl) ?_ (by assumption) ?_
    rotate_left
    · intro w hSw; (try dsimp only at hSw); go_simp; try (with_reducible rfl)
    try simp only [Act.put, List.setIfInBounds_toArray, List.set_cons_zero, List.set_cons_succ]
    refine take_runs (i := 4) (v := ?_) (by simp only [List.getElem?_toArray, List.getElem?_cons_succ, List.getElem?_cons_zero]; rfl) (by kernel_rfl) (by kernel_rfl) (by kernel_rfl) rfl (by exact fun _ _ _ h => h) (by rfl) ?_ (by assumption) ?_
    rotate_left
    · intro w hSw; (try dsimp only at hSw); go_simp; try (with_reducible rfl)
    try simp only [Act.put, List.setIfInBounds_toArray, List.set_cons_zero, List.set_cons_succ]
    refine take_runs (i := 5) (v := ?_) (by simp only [List.getElem?_toArray, List.getElem?_cons_succ, List.getElem?_cons_zero]; rfl) (by kernel_rfl) (by kernel_rfl) (by kernel_rfl) rfl (by exact fun _ _ _ h => h) (by rfl) ?_ (by assumption) ?_
    rotate_left
    · intro w hSw; (try dsimp only at hSw); go_simp; try (with_reducible rfl)
    try simp only [Act.put, List.setIfInBounds_toArray, List.set_cons_zero, List.set_cons_succ]
    refine take_runs (i := 6) (v := ?_) (by simp only [List.getElem?_toArray, List.getElem?_cons_succ, List.getElem?_cons_zero]; rfl) (by kernel_rfl) (by kernel_rfl) (by kernel_rfl) rfl (by exact fun _ _ _ h => h) (by rfl) ?_ (by assumption) ?_
    rotate_left
    · intro w hSw; (try dsimp only at hSw); go_simp; try (with_reducible rfl)
    try simp only [Act.put, List.setIfInBounds_toArray, List.set_cons_zero, List.set_cons_succ]
    refine take_runs (i := 7) (v := ?_) (by simp only [List.getElem?_toArray, List.getElem?_cons_succ, List.getElem?_cons_zero]; rfl) (by kernel_rfl) (by kernel_rfl) (by kernel_rfl) rfl (by exact fun _ _ _ h => h) (by rfl) ?_ (by assumption) ?_
    rotate_left
    · intro w hSw; (try dsimp only at hSw); go_simp; try (with_reducible rfl)
    try simp only [Act.put, List.setIfInBounds_toArray, List.set_cons_zero, List.set_cons_succ]
    refine wpAnyH_ready (rs := [8]) (by kernel_rfl) (by simp) ?_
    refine (AllReadyH.cons (o := _) (by simp only [List.getElem?_toArray, List.getElem?_cons_succ, List.getElem?_cons_zero]; rfl) (fun K hK => ?_) AllReadyH.nil)
    go_simp
    refine (implStabIndexes (.slice qa qs.length qc) qs w4 (slR_queries (slR_below tQuery_law H1.out d.out)) HSQ.out).mono ?_
    rintro e w5 ⟨su, rfl, os, c5⟩
    replace B0 := Lib.hid ((c5.block w.heap.size (Array.getElem?_eq_some_iff.1 B0.out).1).trans B0.out)
    replace d := Lib.hid (d.out.trans (c5.mono d.out.size))
    have Z_w5 := Lib.hid (show w4.heap.size ≤ w5.heap.size from c5.size)
    clear c5
    have S5 := Lib.hid (slO_reads tSpanS_law os)
    clear os
    have p_B0_0 := (cell_of_row w5 _ 0 _ _ _ B0.out).trans (show _ = some (Value.slice qa qs.length qc) from rfl)
    have p_B0_1 := (cell_of_row w5 _ 1 _ _ _ B0.out).trans (show _ = some (Value.slice fa fs.length fc) from rfl)
    refine hK.out _ _ ⟨p_B0_0, p_B0_1⟩ (fun hHeld => ?_)
    clear p_B0_0 p_B0_1
    clear hK K
    try simp only [Act.put, List.setIfInBounds_toArray, List.set_cons_zero, List.set_cons_succ]
    refine wpAnyH_ready (rs := [9]) (by kernel_rfl) (by simp) ?_
    refine (AllReadyH.cons (o := _) (by simp only [List.getElem?_toArray, List.getElem?_cons_succ, List.getElem?_cons_zero]; rfl) (fun K hK => ?_) AllReadyH.nil)
    go_simp
    refine (fieldsFunc_any (.slice fa fs.length fc) su fs (fldTo qs 3) w5 (slR_below tSpanS_law H2.out d.out) S5.out HZF.out (fld_zL qs)).mono ?_
    rintro e w6 ⟨rfl, c6⟩
    replace B0 := Lib.hid ((c6.block w.heap.size (Array.getElem?_eq_some_iff.1 B0.out).1).trans B0.out)
    replace d := Lib.hid (d.out.trans (c6.mono d.out.size))
    have Z_w6 := Lib.hid (show w5.heap.size ≤ w6.heap.size from c6.size)
    clear c6 S5
    generalize decide (fs = fldTo qs 3) = rr at *
    have p_B0_0 := (cell_of_row w6 _ 0 _ _ _ B0.out).trans (show _ = some (Value.slice qa qs.length qc) from rfl)
    have p_B0_1 := (cell_of_row w6 _ 1 _ _ _ B0.out).trans (show _ = some (Value.slice fa fs.length fc) from rfl)
    refine hK.out _ _ ⟨p_B0_0, p_B0_1⟩ (fun hHeld => ?_)
    clear p_B0_0 p_B0_1
    clear hK K
    try simp only [Act.put, List.setIfInBounds_toArray, List.set_cons_zero, List.set_cons_succ]
    refine take_runs (i := 10) (v := ?_) (by simp only [List.getElem?_toArray, List.getElem?_cons_succ, List.getElem?_cons_zero]; rfl) (by kernel_rfl) (by kernel_rfl) (by kernel_rfl) rfl (by exact fun _ _ _ h => h) (by rfl) ?_ (by assumption) ?_
    rotate_left
    · intro w hSw; (try dsimp only at hSw); go_simp; try (with_reducible rfl)
    try simp only [Act.put, List.setIfInBounds_toArray, List.set_cons_zero, List.set_cons_succ]
    refine take_runs (i := 11) (v := ?_) (by simp only [List.getElem?_toArray, List.getElem?_cons_succ, List.getElem?_cons_zero]; rfl) (by kernel_rfl) (by kernel_rfl) (by kernel_rfl) rfl (by exact fun _ _ _ h => h) (by rfl) ?_ (by assumption) ?_
    rotate_left
    · intro w hSw; (try dsimp only at hSw); go_simp; try (with_reducible rfl)
    try simp only [Act.put, List.setIfInBounds_toArray, List.set_cons_zero, List.set_cons_succ]
    refine wpAnyH_done (by kernel_rfl) ?_ _
    clear hHeld
    go_wp2
    go_ret
    exact ⟨ret_b HE.out.symm, d.out⟩
end Go.Proofs.Ytidhmgboknffkaa
namespace Go.Proofs.Ytidhmgboknffkaa
open Go.RowKit
set_option linter.unusedVariables false
set_option linter.unusedSimpArgs false
end Go.Proofs.Ytidhmgboknffkaa
namespace Go.Proofs.Ytidhmgboknffkaa
open Go.RowKit
set_option linter.unusedVariables false
end Go.Proofs.Ytidhmgboknffkaa
namespace Go.Proofs.Ytidhmgboknffkaa
open Go.RowKit
set_option linter.unusedVariables false
set_option linter.unusedSimpArgs false
end Go.Proofs.Ytidhmgboknffkaa
namespace Go.Proofs.Ytidhmgboknffkaa
open Go.RowKit
set_option linter.unusedVariables false
set_option linter.unusedSimpArgs false
end Go.Proofs.Ytidhmgboknffkaa
namespace Go.Proofs.Ytidhmgboknffkaa
open Go.RowKit
set_option linter.unusedVariables false
set_option linter.unusedSimpArgs false
theorem in_is (x lo hi : Int) (w : World) : Calls Try.prog 69 #[.int .i64 x, .int .i64 lo, .int .i64 hi] w fun e w' => e = .returned (.bool (decide (lo ≤ x ∧ x ≤ hi))) ∧ w' = w := by
  by_cases h : lo ≤ x ∧ x ≤ hi
  · rw [decide_eq_true h]; exact in_yes x lo hi w h.1 h.2
  · rw [decide_eq_false h]; exact in_no x lo hi w h
theorem stabS_no {a : List QD} {f v : Int} (h : (areQB a && (okF f && okV v)) = false) : stabL a f v = [] := by unfold stabL; rw [h]; rfl
theorem stabS_yes {a : List QD} {f v : Int} (h : (areQB a && (okF f && okV v)) = true) : stabL a f v = (a.filter (admQ f v)).map (·.1) := by unfold stabL; rw [h]; rfl
theorem admF_yes {a : List QD} {f v : Int} {k : Nat} (hk : k < a.length) (h : admQ f v (a.getD k q0D) = true) : ((a.take k).filter (admQ f v)).map (·.1) ++ [(a.getD k q0D).1] = ((a.take (k + 1)).filter (admQ f v)).map (·.1) := by
  have e : a.getD k q0D = a[k] := by simp [List.getD, hk]
  rw [e] at h ⊢
  rw [List.take_succ_eq_append_getElem hk, List.filter_append, List.map_append]
  simp [List.filter_cons, h]
theorem admF_no {a : List QD} {f v : Int} {k : Nat} (hk : k < a.length) (h : admQ f v (a.getD k q0D) = false) : ((a.take k).filter (admQ f v)).map (·.1) = ((a.take (k + 1)).filter (admQ f v)).map (·.1) := by
  have e : a.getD k q0D = a[k] := by simp [List.getD, hk]
  rw [e] at h
  rw [List.take_succ_eq_append_getElem hk, List.filter_append, List.map_append]
  simp [List.filter_cons, h]
theorem admF_len (a : List QD) (f v : Int) (k : Nat) : (((a.take k).filter (admQ f v)).map (·.1)).length ≤ a.length := by
  rw [List.length_map]
  have := List.length_filter_le (admQ f v) (a.take k)
  rw [List.length_take] at this
  omega
set_option maxHeartbeats 8000000 in
set_option maxRecDepth 100000 in
theorem specStabSet (va : Value) (a : List QD) (f v : Int) (w : World) (h : QueriesR w va a) (hs : szQL a ≤ 1048576) :
    Calls Try.prog 29 #[va, .int .i64 f, .int .i64 v] w (FreshInts w (stabL a f v)) := by
  have H := Lib.hid h
  have HS := Lib.hid hs
  have hn := szQL_len hs
  obtain ⟨ao, cap, rfl⟩ := queriesR_len h
  have HA := Lib.hid (fun w h => specAreQueries (.slice ao a.length cap) a w h hs)
  have HF : Hid (∀ w, Calls Try.prog 69 #[.int .i64 f, .int .i64 0, .int .i64 2] w fun e w' => e = .returned (.bool (okF f)) ∧ w' = w) := Lib.hid (fun w => in_is f 0 2 w)
  have HV : Hid (∀ w, Calls Try.prog 69 #[.int .i64 v, .int .i64 0, .int .i64 99] w fun e w' => e = .returned (.bool (okV v)) ∧ w' = w) := Lib.hid (fun w => in_is v 0 99 w)
  clear h hs
  cases ha : areQB a with
  | false =>
    have HE : Hid (stabL a f v = []) := Lib.hid (stabS_no (by rw [ha]; rfl))
    rw [ha] at HA
    clear ha HF HV
    rw [HE.out]
    clear HE
    go_enter Try.func29, Try.ntmps29
    go_wp2
    have hown := ownsN_lit w w.heap.size (Nat.le_refl _) #[] 0 [] rfl rfl (by decide)
    have hbel := (Below.refl w.heap.size w).alloc (Nat.le_refl _) (.cells #[] 3)
    generalize w.alloc (.cells #[] 3) = w0 at hown hbel ⊢
    go_loopw [7, 8] (fun v i wr => wr = w0 ∧ i = .int .i64 0 ∧ v = .slice (some ⟨w.heap.size, 0, none⟩) 0 0) (fun _ _ _ => 0)
    case atStart => exact ⟨rfl, rfl, rfl⟩
    case round =>
      obtain ⟨rfl, rfl, rfl⟩ := hrel
      by_cases hl : 0 < a.length
      · have i2 : (0 : Int) < (a.length : Int) := by omega
        go_wp2_with fail
        refine (HA.out _ (queriesR_below H.out hbel)).mono ?_
        rintro e w1 ⟨rfl, hb1⟩
        have hown1 := ownsN_below hown hb1
        have hbel1 := hbel.trans (hb1.mono hbel.size)
        clear hown hbel hb1
        go_wp2
        go_ret
        exact ⟨_, rfl, hown1, hbel1⟩
      · have hl2 : ¬ ((0 : Int) < (a.length : Int)) := by omega
        go_wp2
        go_ret
        exact ⟨_, rfl, hown, hbel⟩
  | true =>
    rw [ha] at HA
    cases hf : okF f with
    | false =>
      have HE : Hid (stabL a f v = []) := Lib.hid (stabS_no (by rw [ha, hf]; rfl))
      rw [hf] at HF
      clear ha hf HV
      rw [HE.out]
      clear HE
      go_enter Try.func29, Try.ntmps29
      go_wp2
      have hown := ownsN_lit w w.heap.size (Nat.le_refl _) #[] 0 [] rfl rfl (by decide)
      have hbel := (Below.refl w.heap.size w).alloc (Nat.le_refl _) (.cells #[] 3)
      generalize w.alloc (.cells #[] 3) = w0 at hown hbel ⊢
      go_loopw [7, 8] (fun v i wr => wr = w0 ∧ i = .int .i64 0 ∧ v = .slice (some ⟨w.heap.size, 0, none⟩) 0 0) (fun _ _ _ => 0)
      case atStart => exact ⟨rfl, rfl, rfl⟩
      case round =>
        obtain ⟨rfl, rfl, rfl⟩ := hrel
        by_cases hl : 0 < a.length
        · have i2 : (0 : Int) < (a.length : Int) := by omega
          go_wp2_with fail
          refine (HA.out _ (queriesR_below H.out hbel)).mono ?_
          rintro e w1 ⟨rfl, hb1⟩
          have hown1 := ownsN_below hown hb1
          have hbel1 := hbel.trans (hb1.mono hbel.size)
          clear hown hbel hb1
          go_wp2_with fail
          refine (HF.out _).mono ?_
          rintro e w2 ⟨rfl, rfl⟩
          go_wp2
          go_ret
          exact ⟨_, rfl, hown1, hbel1⟩
        · have hl2 : ¬ ((0 : Int) < (a.length : Int)) := by omega
          go_wp2
          go_ret
          exact ⟨_, rfl, hown, hbel⟩
    | true =>
      rw [hf] at HF
      cases hv : okV v with
      | false =>
        have HE : Hid (stabL a f v = []) := Lib.hid (stabS_no (by rw [ha, hf, hv]; rfl))
        rw [hv] at HV
        clear ha hf hv
        rw [HE.out]
        clear HE
        go_enter Try.func29, Try.ntmps29
        go_wp2
        have hown := ownsN_lit w w.heap.size (Nat.le_refl _) #[] 0 [] rfl rfl (by decide)
        have hbel := (Below.refl w.heap.size w).alloc (Nat.le_refl _) (.cells #[] 3)
        generalize w.alloc (.cells #[] 3) = w0 at hown hbel ⊢
        go_loopw [7, 8] (fun v i wr => wr = w0 ∧ i = .int .i64 0 ∧ v = .slice (some ⟨w.heap.size, 0, none⟩) 0 0) (fun _ _ _ => 0)
        case atStart => exact ⟨rfl, rfl, rfl⟩
        case round =>
          obtain ⟨rfl, rfl, rfl⟩ := hrel
          by_cases hl : 0 < a.length
          · have i2 : (0 : Int) < (a.length : Int) := by omega
            go_wp2_with fail
            refine (HA.out _ (queriesR_below H.out hbel)).mono ?_
            rintro e w1 ⟨rfl, hb1⟩
            have hown1 := ownsN_below hown hb1
            have hbel1 := hbel.trans (hb1.mono hbel.size)
            clear hown hbel hb1
            go_wp2_with fail
            refine (HF.out _).mono ?_
            rintro e w2 ⟨rfl, rfl⟩
            go_wp2_with fail
            refine (HV.out _).mono ?_
            rintro e w2 ⟨rfl, rfl⟩
            go_wp2
            go_ret
            exact ⟨_, rfl, hown1, hbel1⟩
          · have hl2 : ¬ ((0 : Int) < (a.length : Int)) := by omega
            go_wp2
            go_ret
            exact ⟨_, rfl, hown, hbel⟩
      | true =>
        have HE := Lib.hid (stabS_yes (a := a) (f := f) (v := v) (by rw [ha, hf, hv]; rfl))
        rw [hv] at HV
        rw [HE.out]
        clear ha hf hv HE
        go_enter Try.func29, Try.ntmps29
        go_wp2
        go_loopw [7, 8] (fun o i wr => ∃ k : Nat, k ≤ a.length ∧ i = .int .i64 k ∧ OwnsN wr w.heap.size o (((a.take k).filter (admQ f v)).map (·.1)) ∧ Below w.heap.size w wr) (fun _ i _ => a.length - (intOf i).toNat)
        case atStart => exact ⟨0, Nat.zero_le _, rfl, ownsN_lit w _ (Nat.le_refl _) #[] 0 [] rfl rfl (by decide), (Below.refl _ _).alloc (Nat.le_refl _) _⟩
        case round =>
          obtain ⟨k, hk, rfl, hown, hbel⟩ := hrel
          by_cases hlt : k < a.length
          · have i1 : (0 : Int) ≤ (k : Int) := by omega
            have i2 : (k : Int) < (a.length : Int) := by omega
            have HL := Lib.hid (admF_len a f v k)
            have HYES := Lib.hid (fun h => admF_yes (f := f) (v := v) hlt h)
            have HNO := Lib.hid (fun h => admF_no (f := f) (v := v) hlt h)
            have HCL := Lib.hid (szQL_at HS.out hlt).1
            go_wp2_with fail
            refine (HA.out _ (queriesR_below H.out hbel)).mono ?_
            rintro e w1 ⟨rfl, hb1⟩
            have hown1 := ownsN_below hown hb1
            have hbel1 := hbel.trans (hb1.mono hbel.size)
            clear hown hbel hb1
            go_wp2_with fail
            refine (HF.out _).mono ?_
            rintro e w2 ⟨rfl, rfl⟩
            go_wp2_with fail
            refine (HV.out _).mono ?_
            rintro e w2 ⟨rfl, rfl⟩
            have hB1 := hbel1.size
            obtain ⟨b, off, cap', cv, ov, hv, hbl, hc1, hc2, hc3, hc4, hC, hO⟩ := queriesR_at (queriesR_below H.out hbel1) hlt
            simp only [Value.slice.injEq] at hv
            obtain ⟨rfl, _, rfl⟩ := hv
            generalize a.getD k q0D = q at *
            obtain ⟨qid, qtn, qc, qo⟩ := q
            simp only at hc1 hc2 hc3 hc4 hC hO HCL HYES
            have HAQ : Hid (admQ f v (qid, qtn, qc, qo) = admB qc f v) := Lib.hid rfl
            obtain ⟨ca, ccap, rfl⟩ := condsR_len hC
            obtain ⟨oa, ocap, rfl⟩ := ints_len hO
            have HCC := Lib.hid hC
            clear hC hO
            generalize ((a.take k).filter (admQ f v)).map (·.1) = ac at *
            go_wp2_with fail
            refine (specAdmits qid qtn f v (.slice ca qc.length ccap) (.slice oa qo.length ocap) qc _ HCC.out HCL.out).mono ?_
            rintro e w3 ⟨rfl, hb3⟩
            rw [← HAQ.out]
            have hown3 := ownsN_below hown1 hb3
            have hbel3 := hbel1.trans (hb3.mono hbel1.size)
            have hB3 := hbel3.size
            have p1 := (hb3.cell (p := ⟨b, off + k * 4, none⟩) hbl).trans hc1
            clear hown1 hbel1 hb3 hc1 hc2 hc3 hc4
            cases hmb : admQ f v (qid, qtn, qc, qo) with
            | true =>
              have HY := Lib.hid (HYES.out hmb)
              clear hmb HYES HNO
              go_wp2_with (at_builtin; refine append_ints rfl (.tmp 35) (.tmp 41) rfl w.heap.size _ _ rfl hown3 hB3 _ [qid] 1 _ rfl (by first | rfl | (simp; done)) rfl (by have := HL.out; simp; omega) ?_)
              intro v' w4 hown4 hb4
              rw [HY.out] at hown4
              have hb5 := hbel3.trans hb4
              clear hown3 hbel3 hb4 p1
              go_wp2
              go_roundw
              case rel => exact ⟨k + 1, by omega, by go_num, hown4, hb5⟩
              case measure => simp [intOf]; omega
            | false =>
              have HY := Lib.hid (HNO.out hmb)
              clear hmb HYES HNO
              rw [HY.out] at hown3
              go_wp2
              go_roundw
              case rel => exact ⟨k + 1, by omega, by go_num, hown3, hbel3⟩
              case measure => simp [intOf]; omega
          · obtain rfl : k = a.length := by omega
            rw [List.take_length] at hown
            go_wp2
            go_ret
            exact ⟨_, rfl, hown, hbel⟩
end Go.Proofs.Ytidhmgboknffkaa
namespace Go.Proofs.Ytidhmgboknffkaa
open Go.RowKit
set_option linter.unusedVariables false
set_option linter.unusedSimpArgs false
set_option maxHeartbeats 8000000 in
set_option maxRecDepth 100000 in
theorem specStabIndex (va : Value) (a : List QD) (f : Int) (w : World) (h : QueriesR w va a) (hs : szQL a ≤ 1048576) :
    Calls Try.prog 34 #[va, .int .i64 f] w (FreshSpans w (spansL a f)) := by
  have H := Lib.hid h
  obtain ⟨ao, cap, rfl⟩ := queriesR_len h
  have HA := Lib.hid (fun w h => specAreQueries (.slice ao a.length cap) a w h hs)
  have HF : Hid (∀ w, Calls Try.prog 69 #[.int .i64 f, .int .i64 0, .int .i64 2] w fun e w' => e = .returned (.bool (okF f)) ∧ w' = w) := Lib.hid (fun w => in_is f 0 2 w)
  have HST : Hid (∀ (k : Nat) (w : World), QueriesR w (.slice ao a.length cap) a → Calls Try.prog 29 #[.slice ao a.length cap, .int .i64 f, .int .i64 (k : Int)] w (FreshInts w (stabL a f k))) := Lib.hid (fun k w h => specStabSet _ a f k w h hs)
  have HLN : Hid (∀ k : Nat, (stabL a f k).length ≤ 24) := Lib.hid (fun k => stabL_len a f k)
  have HFL : Hid (∀ v : Int, (stabL a f v).length ≤ 24) := Lib.hid (fun v => stabL_len a f v)
  clear h hs
  cases ha : areQB a with
  | false =>
    have HE : Hid (spansL a f = []) := Lib.hid (spansL_no (by rw [ha, Bool.false_and]))
    rw [ha] at HA
    rw [HE.out]
    clear HF HE ha HLN HST
    have oe := ownsP_empty w
    have be := (Below.refl w.heap.size w).alloc (Nat.le_refl _) (.cells #[] 100)
    go_enter Try.func34, Try.ntmps34
    go_wp2_with fail
    generalize w.alloc (.cells #[] 100) = W0 at *
    refine (HA.out _ (queriesR_below H.out be)).mono ?_
    rintro e w1 ⟨rfl, b1⟩
    have b2 := be.trans (b1.mono be.size)
    have o2 := ownsP_below oe b1
    clear b1 oe be
    go_wp2
    go_ret
    exact ⟨_, rfl, o2, b2⟩
  | true =>
    rw [ha] at HA
    cases hf : okF f with
    | false =>
      have HE : Hid (spansL a f = []) := Lib.hid (spansL_no (by rw [ha, hf, Bool.and_false]))
      rw [hf] at HF
      rw [HE.out]
      clear HE ha hf HLN HST
      have oe := ownsP_empty w
      have be := (Below.refl w.heap.size w).alloc (Nat.le_refl _) (.cells #[] 100)
      go_enter Try.func34, Try.ntmps34
      go_wp2_with fail
      generalize w.alloc (.cells #[] 100) = W0 at *
      refine (HA.out _ (queriesR_below H.out be)).mono ?_
      rintro e w1 ⟨rfl, b1⟩
      have b2 := be.trans (b1.mono be.size)
      have o2 := ownsP_below oe b1
      clear b1 oe be
      go_wp2_with fail
      refine (HF.out _).mono ?_
      rintro e w2 ⟨rfl, rfl⟩
      go_wp2
      go_ret
      exact ⟨_, rfl, o2, b2⟩
    | true =>
      have HE : Hid (spansL a f = spansTo (stabL a f) 100) := Lib.hid (spansL_yes (by rw [ha, hf, Bool.and_self]))
      rw [hf] at HF
      rw [HE.out]
      obtain ⟨F, hF⟩ : ∃ F : Int → List Int, stabL a f = F := ⟨_, rfl⟩
      rw [hF] at HFL HLN HST ⊢
      obtain ⟨R, hR⟩ : ∃ R, spansTo F 100 = R := ⟨_, rfl⟩
      rw [hR]
      have HR := Lib.hid hR
      clear HE ha hf hF hR
      have oe := ownsP_empty w
      have be := (Below.refl w.heap.size w).alloc (Nat.le_refl _) (.cells #[] 100)
      go_enter Try.func34, Try.ntmps34
      go_wp2_with fail
      generalize w.alloc (.cells #[] 100) = W0 at *
      refine (HA.out _ (queriesR_below H.out be)).mono ?_
      rintro e w1 ⟨rfl, b1⟩
      have b2 := be.trans (b1.mono be.size)
      have o2 := ownsP_below oe b1
      clear b1 oe be
      go_wp2_with fail
      refine (HF.out _).mono ?_
      rintro e w2 ⟨rfl, rfl⟩
      go_wp2
      go_loopw [5, 6] (fun o i wr => ∃ k : Nat, k ≤ 100 ∧ i = .int .i64 k ∧ OwnsP wr w.heap.size o (spansTo F k) ∧ Below w.heap.size w wr) (fun _ i _ => 100 - (intOf i).toNat)
      case atStart => exact ⟨0, Nat.zero_le _, rfl, o2, b2⟩
      case round =>
        obtain ⟨k, hk, rfl, hown, hbel⟩ := hrel
        by_cases hlt : k < 100
        · have i1 : (0 : Int) ≤ (k : Int) := by omega
          have i2 : (k : Int) ≤ 99 := by omega
          have i4 : (k : Int) < 100 := by omega
          have HAL : Hid ((spansTo F k).length ≤ 100) := Lib.hid (by have := spansTo_len F k; omega)
          have HSL : Hid ((F (k : Int)).length ≤ 24) := Lib.hid (HLN.out k)
          have HST1 : Hid (0 < (spansTo F k).length → ((spansTo F k).getD ((spansTo F k).length - 1) p0D).2.2 = F (k : Int) → (spansTo F k).set ((spansTo F k).length - 1) (((spansTo F k).getD ((spansTo F k).length - 1) p0D).1, (k : Int), ((spansTo F k).getD ((spansTo F k).length - 1) p0D).2.2) = spansTo F (k + 1)) := Lib.hid (fun h0 h => stepP_set h0 h)
          have HST2 : Hid (¬ (0 < (spansTo F k).length ∧ ((spansTo F k).getD ((spansTo F k).length - 1) p0D).2.2 = F (k : Int)) → spansTo F k ++ [((k : Int), (k : Int), F (k : Int))] = spansTo F (k + 1)) := Lib.hid (fun h => stepP_app h)
          have HSTL : Hid (∀ j, j < (spansTo F k).length → ((spansTo F k).getD j p0D).2.2.length ≤ 24) := Lib.hid (fun j hj => (spansTo_sets (F := F) (M := 24) (fun v => HFL.out v) k _ (getD_mem hj)))
          generalize spansTo F k = acc at *
          obtain ⟨oa, ocap, rfl⟩ := ownsP_len hown
          have HOW := Lib.hid hown
          have HBL := Lib.hid hbel
          clear hown hbel
          go_wp2_with fail
          refine (HST.out k _ (queriesR_below H.out HBL.out)).mono ?_
          rintro e v1 ⟨su, rfl, os, b1⟩
          generalize F (k : Int) = s at *
          obtain ⟨sa, sc, rfl⟩ := ints_len (ownsN_ints os)
          have HOS := Lib.hid os
          have HB1 := Lib.hid b1
          clear os b1
          by_cases hp : 0 < acc.length
          · have hp2 : (0 : Int) < (acc.length : Int) := by omega
            obtain ⟨g, cap2, hv, hBg, hgw, hfz, vv, hc2, hc1, hI⟩ := ownsP_shape HOW.out hp
            simp only [Value.slice.injEq, true_and] at hv
            obtain ⟨rfl, rfl⟩ := hv
            obtain ⟨va2, vcap2, rfl⟩ := ints_len hI
            have d2 := (HB1.out.cell (p := ⟨g, (acc.length - 1) * 3 + 2, none⟩) hgw).trans hc2
            have d1 := (HB1.out.cell (p := ⟨g, (acc.length - 1) * 3 + 1, none⟩) hgw).trans hc1
            have HI1 := Lib.hid (ints_below hI HB1.out)
            have hxl := HSTL.out _ (show acc.length - 1 < acc.length by omega)
            obtain ⟨m, hm⟩ : ∃ m, acc.length = m + 1 := ⟨acc.length - 1, by omega⟩
            have HM := Lib.hid hm
            rw [show acc.length - 1 = m by omega] at d1 d2 HI1 hxl HST1 HST2
            have HW1 := Lib.hid (fun (u : World) (h : OwnsP u w.heap.size (.slice (some ⟨g, 0, none⟩) acc.length ocap) acc) => ownsP_to h (k := m) (by have := HM.out; omega) (k : Int))
            have HOW1 := Lib.hid (ownsP_below HOW.out HB1.out)
            rw [hm] at HOW HOW1 HW1
            have hm9 : m ≤ 99 := by have := HAL.out; omega
            have HMR := Lib.hid hp
            clear hc1 hc2 hI hfz HSTL hp hp2
            have hp2 : (0 : Int) < (m : Int) + 1 := by omega
            have hp3 : (m : Int) < (m : Int) + 1 := by omega
            have hp4 : (0 : Int) ≤ (m : Int) := by omega
            clear hm
            obtain ⟨r, hr⟩ : ∃ r, acc.getD m p0D = r := ⟨_, rfl⟩
            rw [hr] at d1 d2 HI1 hxl HST1 HST2 HW1
            clear hr
            obtain ⟨rf, rt, xs⟩ := r
            simp only at d1 d2 HI1 hxl HST1 HST2 HW1
            rw [HM.out]
            go_wp2_with fail
            refine (specInts (.slice va2 xs.length vcap2) (.slice sa s.length sc) xs s _ HI1.out (ownsN_ints HOS.out) (by omega) (by have := HSL.out; omega)).mono ?_
            rintro e v2 ⟨rfl, b2⟩
            have e1 := (b2.cell (p := ⟨g, m * 3 + 1, none⟩) (Nat.lt_of_lt_of_le hgw HB1.out.size)).trans d1
            have HO2 := Lib.hid (ownsP_below HOW1.out b2)
            have HC2 := Lib.hid ((HBL.out.trans (HB1.out.mono HBL.out.size)).trans (b2.mono (HBL.out.trans (HB1.out.mono HBL.out.size)).size))
            have HS2 := Lib.hid (ownsN_below HOS.out b2)
            clear d1 d2 HI1 HOW1
            cases hd : decide (xs = s) with
            | true =>
              have HX := Lib.hid (HST1.out (by have := HM.out; omega) (of_decide_eq_true hd))
              clear hd HST1 HST2
              have fz : v2.frozen? ⟨g, m * 3 + 1, none⟩ = false := by
                obtain ⟨cs2, vs2, q1, _⟩ := HO2.out
                rw [HM.out] at q1
                exact World.ownsRow.frozenAt q1 _
              have FO := Lib.hid (HW1.out v2 HO2.out)
              rw [HX.out] at FO
              have B4 := HC2.out.setCell (p := ⟨g, m * 3 + 1, none⟩) hBg (.int .i64 (k : Int))
              clear b2 HW1
              go_wp2
              go_roundw
              case rel => exact ⟨k + 1, by omega, by go_num, FO.out, B4⟩
              case measure => simp [intOf]; omega
            | false =>
              have HX := Lib.hid (HST2.out (fun g => of_decide_eq_false hd g.2))
              clear hd HST2 e1
              have HBW := Lib.hid (HB1.out.trans (b2.mono HB1.out.size))
              clear b2
              clear HST1 HW1 hp2 hp3 hp4
              obtain ⟨cs, vs, q1, q2, q3⟩ := HOW.out
              have HL1 := Lib.hid (fun (j : Nat) (hj : j < acc.length) (q : Nat) (e : (vs j).ownBlock = some q) => ((q2 j hj).2.2.2.1.lt q e).2)
              have HL2 := Lib.hid (fun (q : Nat) e => (q1.lt q e).2)
              have hbb := HBW.out
              have H1 := Lib.hid (ownsRow_below q1 hbb)
              have H2 := Lib.hid (fun (j : Nat) (hj : j < acc.length) => (⟨(q2 j hj).1, (q2 j hj).2.1, (q2 j hj).2.2.1, ownsN_below (q2 j hj).2.2.2.1 hbb, (q2 j hj).2.2.2.2⟩ : _ ∧ _ ∧ _ ∧ _ ∧ _))
              have H3 := Lib.hid q3
              have hal : Below v2.heap.size v2 (v2.alloc (.cells #[.int .i64 (k : Int), .int .i64 (k : Int), .slice sa s.length sc] 100)) := (Below.refl _ _).alloc (Nat.le_refl _) _
              have HAL2 := Lib.hid hal
              have HCA := Lib.hid (HC2.out.trans (hal.mono HC2.out.size))
              have oX : SpansC (v2.alloc (.cells #[.int .i64 (k : Int), .int .i64 (k : Int), .slice sa s.length sc] 100)) w.heap.size _ acc.length cs := spansC_kept H1.out hal
              rw [HM.out] at oX
              clear hal q1 q2 q3 hbb
              go_wp2_with (at_builtin; refine append_spans rfl (.tmp 47) (.tmp 52) rfl w.heap.size _ _ _ rfl oX HCA.out.size ⟨v2.heap.size, 0, none⟩ 1 1 [.int .i64 (k : Int), .int .i64 (k : Int), .slice sa s.length sc] rfl rfl (fun j u hj => by rw [Go.WideShapes.add_plain, Nat.zero_add, cell_lit]; simpa using hj) (by intro u hu; simp at hu; rcases hu with rfl | rfl | rfl <;> rfl) (by have := HAL.out; omega) ?_)
              intro x3 W3 oX3 gX3 _ hat3
              have oX4 : SpansC W3 w.heap.size x3 (acc.length + 1) (cs ++ [.int .i64 (k : Int), .int .i64 (k : Int), .slice sa s.length sc]) := by
                rw [HM.out]; exact oX3
              skip
              have FO := append_ownsP (r := ((k : Int), (k : Int), s)) H1.out H2.out H3.out HL1.out HL2.out HBL.out.size HS2.out HAL2.out gX3 oX4 (by simpa [World.size_alloc] using hat3)
              have FB := HCA.out.grown gX3 HCA.out.size (fun q e => (H1.out.lt q e).1)
              rw [HX.out] at FO
              clear oX oX3 oX4 gX3 hat3
              go_wp2
              go_roundw
              case rel => exact ⟨k + 1, by omega, by go_num, FO, FB⟩
              case measure => simp [intOf]; omega
          · have hz : acc.length = 0 := by omega
            have HX := Lib.hid (HST2.out (fun g => hp g.1))
            have HO2 := Lib.hid (ownsP_below HOW.out HB1.out)
            have HC2 := Lib.hid (HBL.out.trans (HB1.out.mono HBL.out.size))
            have HS2 := HOS
            have HBW := HB1
            clear HST2 hp HSTL
            rw [hz]
            clear HST1
            obtain ⟨cs, vs, q1, q2, q3⟩ := HOW.out
            have HL1 := Lib.hid (fun (j : Nat) (hj : j < acc.length) (q : Nat) (e : (vs j).ownBlock = some q) => ((q2 j hj).2.2.2.1.lt q e).2)
            have HL2 := Lib.hid (fun (q : Nat) e => (q1.lt q e).2)
            have hbb := HBW.out
            have H1 := Lib.hid (ownsRow_below q1 hbb)
            have H2 := Lib.hid (fun (j : Nat) (hj : j < acc.length) => (⟨(q2 j hj).1, (q2 j hj).2.1, (q2 j hj).2.2.1, ownsN_below (q2 j hj).2.2.2.1 hbb, (q2 j hj).2.2.2.2⟩ : _ ∧ _ ∧ _ ∧ _ ∧ _))
            have H3 := Lib.hid q3
            have hal : Below v1.heap.size v1 (v1.alloc (.cells #[.int .i64 (k : Int), .int .i64 (k : Int), .slice sa s.length sc] 100)) := (Below.refl _ _).alloc (Nat.le_refl _) _
            have HAL2 := Lib.hid hal
            have HCA := Lib.hid (HC2.out.trans (hal.mono HC2.out.size))
            have oX : SpansC (v1.alloc (.cells #[.int .i64 (k : Int), .int .i64 (k : Int), .slice sa s.length sc] 100)) w.heap.size _ acc.length cs := spansC_kept H1.out hal
            rw [hz] at oX
            clear hal q1 q2 q3 hbb
            go_wp2_with (at_builtin; refine append_spans rfl (.tmp 47) (.tmp 52) rfl w.heap.size _ _ _ rfl oX HCA.out.size ⟨v1.heap.size, 0, none⟩ 1 1 [.int .i64 (k : Int), .int .i64 (k : Int), .slice sa s.length sc] rfl rfl (fun j u hj => by rw [Go.WideShapes.add_plain, Nat.zero_add, cell_lit]; simpa using hj) (by intro u hu; simp at hu; rcases hu with rfl | rfl | rfl <;> rfl) (by have := HAL.out; omega) ?_)
            intro x3 W3 oX3 gX3 _ hat3
            have oX4 : SpansC W3 w.heap.size x3 (acc.length + 1) (cs ++ [.int .i64 (k : Int), .int .i64 (k : Int), .slice sa s.length sc]) := by
              rw [hz]; exact oX3
            rw [show (Value.slice oa 0 ocap).ownBlock = (Value.slice oa acc.length ocap).ownBlock by rw [hz]] at gX3 hat3
            have FO := append_ownsP (r := ((k : Int), (k : Int), s)) H1.out H2.out H3.out HL1.out HL2.out HBL.out.size HS2.out HAL2.out gX3 oX4 (by simpa [World.size_alloc] using hat3)
            have FB := HCA.out.grown gX3 HCA.out.size (fun q e => (H1.out.lt q e).1)
            rw [HX.out] at FO
            clear oX oX3 oX4 gX3 hat3
            go_wp2
            go_roundw
            case rel => exact ⟨k + 1, by omega, by go_num, FO, FB⟩
            case measure => simp [intOf]; omega
        · obtain rfl : k = 100 := by omega
          rw [HR.out] at hown
          have i2 : ¬ ((100 : Nat) : Int) ≤ 99 := by omega
          have i3 : ¬ ((100 : Nat) : Int) < 100 := by omega
          obtain ⟨oa, ocap, rfl⟩ := ownsP_len hown
          go_wp2
          go_ret
          exact ⟨_, rfl, hown, hbel⟩
end Go.Proofs.Ytidhmgboknffkaa
namespace Go.Proofs.Ytidhmgboknffkaa
open Go.RowKit
set_option linter.unusedVariables false
set_option linter.unusedSimpArgs false
end Go.Proofs.Ytidhmgboknffkaa
namespace Go.Proofs.Ytidhmgboknffkaa
open Go.RowKit
set_option linter.unusedVariables false
set_option linter.unusedSimpArgs false
/-- As far as k the fields are the spans. -/
def FldTo (qs : List QD) (fs : List (List SpanD)) (k : Nat) : Prop := ∀ j, j < k → fs.getD j [] = spansL qs (j : Int)
theorem isIdx_no {qs : List QD} {fs : List (List SpanD)} (h : areQB qs = false) : isIndexB qs fs = false := by unfold isIndexB; rw [h]; rfl
theorem isIdx_len {qs : List QD} {fs : List (List SpanD)} (h : ¬ fs.length = 3) : isIndexB qs fs = false := by
  unfold isIndexB
  rw [decide_eq_false (fun e => h (by rw [e, fldTo_len])), Bool.and_false]
theorem isIdx_at {qs : List QD} {fs : List (List SpanD)} {k : Nat} (hk : k < 3) (h : ¬ fs.getD k [] = spansL qs (k : Int)) : isIndexB qs fs = false := by
  unfold isIndexB
  rw [decide_eq_false (fun e => h (by rw [e, fldTo_at qs hk])), Bool.and_false]
theorem isIdx_yes {qs : List QD} {fs : List (List SpanD)} (hq : areQB qs = true) (hl : fs.length = 3) (h : FldTo qs fs 3) : isIndexB qs fs = true := by
  unfold isIndexB
  rw [hq, Bool.true_and, decide_eq_true_eq]
  apply List.ext_getElem
  · rw [hl, fldTo_len]
  · intro i h1 h2
    have := h i (by omega)
    rw [← fldTo_at qs (k := 3) (by omega)] at this
    simpa [List.getD, h1, h2] using this
set_option maxHeartbeats 16000000 in
set_option maxRecDepth 100000 in
theorem specIsIndex (qv fv : Value) (qs : List QD) (fs : List (List SpanD)) (w : World) (h1 : SlR tQuery w qv qs) (h2 : SlR tSpanS w fv fs) (hs : zL tQuery qs ≤ 1048576) (hz : zL tSpanS fs ≤ 1048576) :
    Calls Try.prog 19 #[.agg #[qv, fv]] w fun e w' => e = .returned (.bool (isIndexB qs fs)) ∧ Below w.heap.size w w' := by
  have HSQ : Hid (szQL qs ≤ 1048576) := Lib.hid (by rw [← zL_queries]; exact hs)
  have HZF := Lib.hid hz
  have hlen := zL_len hs
  have hlen2 := zL_len hz
  obtain ⟨qa, qc, rfl⟩ := slR_len h1
  obtain ⟨fa, fc, rfl⟩ := slR_len h2
  have d0 := Lib.hid ((Below.refl w.heap.size w).alloc (Nat.le_refl _) (.cells #[.slice qa qs.length qc, .slice fa fs.length fc] 27))
  have B0 : Hid ((w.alloc (.cells #[.slice qa qs.length qc, .slice fa fs.length fc] 27)).heap[w.heap.size]? = some (.cells #[.slice qa qs.length qc, .slice fa fs.length fc] 27 (0, 0))) := Lib.hid (heap_alloc_new w _)
  have Y0 : Hid (w.heap.size < (w.alloc (.cells #[.slice qa qs.length qc, .slice fa fs.length fc] 27)).heap.size) := Lib.hid (by simp [World.size_alloc])
  have H1 := Lib.hid h1
  have H2 := Lib.hid h2
  have HA := Lib.hid (fun w h => specAreQueries (.slice qa qs.length qc) qs w h HSQ.out)
  clear h1 h2 hs hz
  cases hq : areQB qs with
  | false =>
    have HE := Lib.hid (isIdx_no (fs := fs) hq)
    rw [hq] at HA
    rw [HE.out]
    clear hq HE
    go_enter Try.func19, Try.ntmps19
    go_wp2_with fail
    generalize w.alloc (.cells #[.slice qa qs.length qc, .slice fa fs.length fc] 27) = W at *
    refine (HA.out W (slR_queries (slR_below tQuery_law H1.out d0.out))).mono ?_
    rintro e w1 ⟨rfl, b1⟩
    have D := Lib.hid (d0.out.trans (b1.mono d0.out.size))
    clear b1
    go_wp2
    go_ret
    exact ⟨rfl, D.out⟩
  | true =>
    have HQ := Lib.hid hq
    rw [hq] at HA
    clear hq
    by_cases hl : fs.length = 3
    · have HL := Lib.hid hl
      have hne : ((fs.length : Int) != 3) = false := by rw [hl]; rfl
      clear hl
      go_enter Try.func19, Try.ntmps19
      go_wp2_with fail
      generalize w.alloc (.cells #[.slice qa qs.length qc, .slice fa fs.length fc] 27) = W at *
      refine (HA.out W (slR_queries (slR_below tQuery_law H1.out d0.out))).mono ?_
      rintro e w1 ⟨rfl, b1⟩
      have k0 := (b1.block w.heap.size Y0.out).trans B0.out
      have d1 := d0.out.trans (b1.mono d0.out.size)
      have y1 := Nat.lt_of_lt_of_le Y0.out b1.size
      have c1 := (cell_of_row w1 _ 1 _ _ _ k0).trans (show _ = some (Value.slice fa fs.length fc) from rfl)
      clear b1 d0 B0 Y0
      go_wp2
      clear c1 hne
      go_loopw [3] (fun i wr => ∃ k : Nat, k ≤ 3 ∧ i = .int .i64 k ∧ Hid (FldTo qs fs k) ∧ wr.heap[w.heap.size]? = some (.cells #[.slice qa qs.length qc, .slice fa fs.length fc] 27 (0, 0)) ∧ Below w.heap.size w wr ∧ w.heap.size < wr.heap.size) (fun i _ => 3 - (intOf i).toNat)
      case atStart => exact ⟨0, by omega, rfl, Lib.hid (fun j hj => by omega), k0, d1, y1⟩
      case round =>
        obtain ⟨k, hk, rfl, hf, hr, hbel, hsz⟩ := hrel
        by_cases hlt : k < 3
        · have i1 : (0 : Int) ≤ (k : Int) := by omega
          have i2 : (k : Int) < 3 := by omega
          have i3 : (k : Int) < (fs.length : Int) := by have := HL.out; omega
          have hkf : k < fs.length := by have := HL.out; omega
          obtain ⟨b, off, cap', cs, hv, hbl, hcs, hR⟩ := slR_at H2.out hkf
          simp only [Value.slice.injEq] at hv
          obtain ⟨rfl, _, rfl⟩ := hv
          obtain ⟨u, rfl, hU⟩ := hR
          have p0 : w.cell? ⟨b, off + k, none⟩ = some u := by have := hcs 0 Nat.one_pos; rw [show tSpanS.n = 1 from rfl, Nat.mul_one, Nat.add_zero] at this; exact this
          have hzx := zL_at HZF.out hkf
          have HU := Lib.hid hU
          have HZU : Hid (zpL (fs.getD k []) ≤ 1048576) := Lib.hid (by rw [← zL_spans]; exact hzx)
          have HUL : Hid (∃ a cap, u = .slice a (fs.getD k []).length cap) := Lib.hid (slR_len hU)
          have HNO := Lib.hid (fun h => isIdx_at (qs := qs) (fs := fs) hlt h)
          have HST : Hid (fs.getD k [] = spansL qs (k : Int) → FldTo qs fs (k + 1)) := Lib.hid (fun h j hj => by
            by_cases e : j = k
            · rw [e]; exact h
            · exact hf.out j (by omega))
          have P0 := Lib.hid p0
          have HBL := Lib.hid hbl
          have B0 := Lib.hid hr
          have d := Lib.hid hbel
          have ZS : Hid (zpL (spansL qs (k : Int)) ≤ 1048576) := Lib.hid (by have := spansL_size qs (k : Int); omega)
          clear hcs p0 hU hzx hf hr hbel k0 d1 y1 hbl
          change Hid (SlR tSpan w u (fs.getD k [])) at HU
          generalize fs.getD k [] = rs at *
          obtain ⟨ua, uc, rfl⟩ := HUL.out
          clear HUL
          by_cases he : rs = spansL qs (k : Int)
          · have HS := Lib.hid (HST.out he)
            have HDE : Hid (decide (rs = spansL qs (k : Int)) = true) := Lib.hid (decide_eq_true he)
            clear he HST HNO
            go_wp2
            have p_B0_0 := (cell_of_row wr _ 0 _ _ _ B0.out).trans (show _ = some (Value.slice qa qs.length qc) from rfl)
            have p_B0_1 := (cell_of_row wr _ 1 _ _ _ B0.out).trans (show _ = some (Value.slice (some ⟨b, off, none⟩) fs.length fc) from rfl)
            have p_el := (d.out.cell (p := ⟨b, off + k, none⟩) HBL.out).trans P0.out
            refine wp_region_held_drew (S := fun w' => w'.cell? ⟨w.heap.size, 0, none⟩ = some (Value.slice qa qs.length qc) ∧ w'.cell? ⟨w.heap.size, 1, none⟩ = some (Value.slice (some ⟨b, off, none⟩) fs.length fc) ∧ w'.cell? ⟨b, off + k, none⟩ = some (Value.slice ua rs.length uc)) (by kernel_rfl) ⟨p_B0_0, p_B0_1, p_el⟩ (fun hHeld => ?_)
            clear p_B0_0 p_B0_1 p_el
            have cdr : Below wr.heap.size wr wr.drew := below_drew (Below.refl _ _)
            replace B0 := Lib.hid ((cdr.block w.heap.size (Array.getElem?_eq_some_iff.1 B0.out).1).trans B0.out)
            replace d := Lib.hid (d.out.trans (cdr.mono d.out.size))
            clear cdr
            refine take_runs (i := 0) (v := ?_) (by simp only [List.getElem?_toArray, List.getElem?_cons_succ, List.getElem?_cons_zero]; rfl) (by kernel_rfl) (by kernel_rfl) (by kernel_rfl) rfl (by exact fun _ _ _ h => h) (by rfl) ?_ (by assumption) ?_
            rotate_left
            · intro w hSw; (try dsimp only at hSw); go_simp; try (with_reducible rfl)
            try simp only [Act.put, List.setIfInBounds_toArray, List.set_cons_zero, List.set_cons_succ]
            refine take_runs (i := 1) (v := ?_) (by simp only [List.getElem?_toArray, List.getElem?_cons_succ, List.getElem?_cons_zero]; rfl) (by kernel_rfl) (by kernel_rfl) (by kernel_rfl) rfl (by exact fun _ _ _ h => h) (by rfl) ?_ (by assumption) ?_
            rotate_left
            · intro w hSw; (try dsimp only at hSw); go_simp; try (with_reducible rfl)
            try simp only [Act.put, List.setIfInBounds_toArray, List.set_cons_zero, List.set_cons_succ]
            refine take_runs (i := 2) (v := ?_) (by simp only [List.getElem?_toArray, List.getElem?_cons_succ, List.getElem?_cons_zero]; rfl) (by kernel_rfl) (by kernel_rfl) (by kernel_rfl) rfl (by exact fun _ _ _ h => h) (by rfl) ?_ (by assumption) ?_
            rotate_left
            · intro w hSw; (try dsimp only at hSw); go_simp; try (with_reducible rfl)
            try simp only [Act.put, List.setIfInBounds_toArray, List.set_cons_zero, List.set_cons_succ]
            refine take_runs (i := 3) (v := ?_) (by simp only [List.getElem?_toArray, List.getElem?_cons_succ, List.getElem?_cons_zero]; rfl) (by kernel_rfl) (by kernel_rfl) (by kernel_rfl) rfl (by exact fun _ _ _ h => h) (by rfl) ?_ (by assumption) ?_
            rotate_left
            · intro w hSw; (try dsimp only at hSw); go_simp; try (with_reducible rfl)
            try simp only [Act.put, List.setIfInBounds_toArray, List.set_cons_zero, List.set_cons_succ]
            refine take_runs (i := 4) (v := ?_) (by simp only [List.getElem?_toArray, List.getElem?_cons_succ, List.getElem?_cons_zero]; rfl) (by kernel_rfl) (by kernel_rfl) (by kernel_rfl) rfl (by exact fun _ _ _ h => h) (by rfl) ?_ (by assumption) ?_
            rotate_left
            · intro w hSw; (try dsimp only at hSw); go_simp; try (with_reducible rfl)
            try simp only [Act.put, List.setIfInBounds_toArray, List.set_cons_zero, List.set_cons_succ]
            refine take_runs (i := 5) (v := ?_) (by simp only [List.getElem?_toArray, List.getElem?_cons_succ, List.getElem?_cons_zero]; rfl) (by kernel_rfl) (by kernel_rfl) (by kernel_rfl) rfl (by exact fun _ _ _ h => h) (by rfl) ?_ (by assumption) ?_
            rotate_left
            · intro w hSw; (try dsimp only at hSw); go_simp; try (with_reducible rfl)
            try simp only [Act.put, List.setIfInBounds_toArray, List.set_cons_zero, List.set_cons_succ]
            refine take_runs (i := 6) (v := ?_) (by simp only [List.getElem?_toArray, List.getElem?_cons_succ, List.getElem?_cons_zero]; rfl) (by kernel_rfl) (by kernel_rfl) (by kernel_rfl) rfl (by exact fun _ _ _ h => h) (by rfl) ?_ (by assumption) ?_
            rotate_left
            · intro w hSw; (try dsimp only at hSw); go_simp; try (with_reducible rfl)
            try simp only [Act.put, List.setIfInBounds_toArray, List.set_cons_zero, List.set_cons_succ]
            refine take_runs (i := 7) (v := ?_) (by simp only [List.getElem?_toArray, List.getElem?_cons_succ, List.getElem?_cons_zero]; rfl) (by kernel_rfl) (by kernel_rfl) (by kernel_rfl) rfl (by exact fun _ _ _ h => h) (by rfl) ?_ (by assumption) ?_
            rotate_left
            · intro w hSw; (try dsimp only at hSw); go_simp; try (with_reducible rfl)
            try simp only [Act.put, List.setIfInBounds_toArray, List.set_cons_zero, List.set_cons_succ]
            refine wpAnyH_ready (rs := [8]) (by kernel_rfl) (by simp) ?_
            refine (AllReadyH.cons (o := _) (by simp only [List.getElem?_toArray, List.getElem?_cons_succ, List.getElem?_cons_zero]; rfl) (fun K hK => ?_) AllReadyH.nil)
            go_simp
            refine (specStabIndex (.slice qa qs.length qc) qs (k : Int) (wr.drew) (slR_queries (slR_below tQuery_law H1.out d.out)) HSQ.out).mono ?_
            rintro e w5 ⟨su, rfl, os, c5⟩
            replace B0 := Lib.hid ((c5.block w.heap.size (Array.getElem?_eq_some_iff.1 B0.out).1).trans B0.out)
            replace d := Lib.hid (d.out.trans (c5.mono d.out.size))
            have Z_w5 := Lib.hid (show wr.heap.size ≤ w5.heap.size from c5.size)
            clear c5
            have S5 := Lib.hid (ownsP_spans os)
            have SB5 := Lib.hid (Below.refl w5.heap.size w5)
            clear os
            have p_B0_0 := (cell_of_row w5 _ 0 _ _ _ B0.out).trans (show _ = some (Value.slice qa qs.length qc) from rfl)
            have p_B0_1 := (cell_of_row w5 _ 1 _ _ _ B0.out).trans (show _ = some (Value.slice (some ⟨b, off, none⟩) fs.length fc) from rfl)
            have p_el := (d.out.cell (p := ⟨b, off + k, none⟩) HBL.out).trans P0.out
            refine hK.out _ _ ⟨p_B0_0, p_B0_1, p_el⟩ (fun hHeld => ?_)
            clear p_B0_0 p_B0_1 p_el
            clear hK K
            try simp only [Act.put, List.setIfInBounds_toArray, List.set_cons_zero, List.set_cons_succ]
            refine wpAnyH_ready (rs := [9]) (by kernel_rfl) (by simp) ?_
            refine (AllReadyH.cons (o := _) (by simp only [List.getElem?_toArray, List.getElem?_cons_succ, List.getElem?_cons_zero]; rfl) (fun K hK => ?_) AllReadyH.nil)
            go_simp
            refine (specEqSpans (.slice ua rs.length uc) su rs (spansL qs (k : Int)) w5 (slR_spans (slR_below tSpan_law HU.out d.out)) S5.out HZU.out ZS.out).mono ?_
            rintro e w6 ⟨rfl, c6⟩
            replace B0 := Lib.hid ((c6.block w.heap.size (Array.getElem?_eq_some_iff.1 B0.out).1).trans B0.out)
            replace d := Lib.hid (d.out.trans (c6.mono d.out.size))
            have Z_w6 := Lib.hid (show w5.heap.size ≤ w6.heap.size from c6.size)
            clear c6 S5 SB5
            rw [HDE.out]
            have p_B0_0 := (cell_of_row w6 _ 0 _ _ _ B0.out).trans (show _ = some (Value.slice qa qs.length qc) from rfl)
            have p_B0_1 := (cell_of_row w6 _ 1 _ _ _ B0.out).trans (show _ = some (Value.slice (some ⟨b, off, none⟩) fs.length fc) from rfl)
            have p_el := (d.out.cell (p := ⟨b, off + k, none⟩) HBL.out).trans P0.out
            refine hK.out _ _ ⟨p_B0_0, p_B0_1, p_el⟩ (fun hHeld => ?_)
            clear p_B0_0 p_B0_1 p_el
            clear hK K
            try simp only [Act.put, List.setIfInBounds_toArray, List.set_cons_zero, List.set_cons_succ]
            refine take_runs (i := 10) (v := ?_) (by simp only [List.getElem?_toArray, List.getElem?_cons_succ, List.getElem?_cons_zero]; rfl) (by kernel_rfl) (by kernel_rfl) (by kernel_rfl) rfl (by exact fun _ _ _ h => h) (by rfl) ?_ (by assumption) ?_
            rotate_left
            · intro w hSw; (try dsimp only at hSw); go_simp; try (with_reducible rfl)
            try simp only [Act.put, List.setIfInBounds_toArray, List.set_cons_zero, List.set_cons_succ]
            refine wpAnyH_done (by kernel_rfl) ?_ _
            clear hHeld
            go_wp2
            go_roundw
            case rel => exact ⟨k + 1, by omega, by go_num, HS, B0.out, d.out, Nat.lt_of_lt_of_le hsz (Nat.le_trans Z_w5.out Z_w6.out)⟩
            case measure => simp [intOf]; omega
          · have HF := Lib.hid (HNO.out he)
            have HDE : Hid (decide (rs = spansL qs (k : Int)) = false) := Lib.hid (decide_eq_false he)
            clear he HST HNO
            go_wp2
            have p_B0_0 := (cell_of_row wr _ 0 _ _ _ B0.out).trans (show _ = some (Value.slice qa qs.length qc) from rfl)
            have p_B0_1 := (cell_of_row wr _ 1 _ _ _ B0.out).trans (show _ = some (Value.slice (some ⟨b, off, none⟩) fs.length fc) from rfl)
            have p_el := (d.out.cell (p := ⟨b, off + k, none⟩) HBL.out).trans P0.out
            refine wp_region_held_drew (S := fun w' => w'.cell? ⟨w.heap.size, 0, none⟩ = some (Value.slice qa qs.length qc) ∧ w'.cell? ⟨w.heap.size, 1, none⟩ = some (Value.slice (some ⟨b, off, none⟩) fs.length fc) ∧ w'.cell? ⟨b, off + k, none⟩ = some (Value.slice ua rs.length uc)) (by kernel_rfl) ⟨p_B0_0, p_B0_1, p_el⟩ (fun hHeld => ?_)
            clear p_B0_0 p_B0_1 p_el
            have cdr : Below wr.heap.size wr wr.drew := below_drew (Below.refl _ _)
            replace B0 := Lib.hid ((cdr.block w.heap.size (Array.getElem?_eq_some_iff.1 B0.out).1).trans B0.out)
            replace d := Lib.hid (d.out.trans (cdr.mono d.out.size))
            clear cdr
            refine take_runs (i := 0) (v := ?_) (by simp only [List.getElem?_toArray, List.getElem?_cons_succ, List.getElem?_cons_zero]; rfl) (by kernel_rfl) (by kernel_rfl) (by kernel_rfl) rfl (by exact fun _ _ _ h => h) (by rfl) ?_ (by assumption) ?_
            rotate_left
            · intro w hSw; (try dsimp only at hSw); go_simp; try (with_reducible rfl)
            try simp only [Act.put, List.setIfInBounds_toArray, List.set_cons_zero, List.set_cons_succ]
            refine take_runs (i := 1) (v := ?_) (by simp only [List.getElem?_toArray, List.getElem?_cons_succ, List.getElem?_cons_zero]; rfl) (by kernel_rfl) (by kernel_rfl) (by kernel_rfl) rfl (by exact fun _ _ _ h => h) (by rfl) ?_ (by assumption) ?_
            rotate_left
            · intro w hSw; (try dsimp only at hSw); go_simp; try (with_reducible rfl)
            try simp only [Act.put, List.setIfInBounds_toArray, List.set_cons_zero, List.set_cons_succ]
            refine take_runs (i := 2) (v := ?_) (by simp only [List.getElem?_toArray, List.getElem?_cons_succ, List.getElem?_cons_zero]; rfl) (by kernel_rfl) (by kernel_rfl) (by kernel_rfl) rfl (by exact fun _ _ _ h => h) (by rfl) ?_ (by assumption) ?_
            rotate_left
            · intro w hSw; (try dsimp only at hSw); go_simp; try (with_reducible rfl)
            try simp only [Act.put, List.setIfInBounds_toArray, List.set_cons_zero, List.set_cons_succ]
            refine take_runs (i := 3) (v := ?_) (by simp only [List.getElem?_toArray, List.getElem?_cons_succ, List.getElem?_cons_zero]; rfl) (by kernel_rfl) (by kernel_rfl) (by kernel_rfl) rfl (by exact fun _ _ _ h => h) (by rfl) ?_ (by assumption) ?_
            rotate_left
            · intro w hSw; (try dsimp only at hSw); go_simp; try (with_reducible rfl)
            try simp only [Act.put, List.setIfInBounds_toArray, List.set_cons_zero, List.set_cons_succ]
            refine take_runs (i := 4) (v := ?_) (by simp only [List.getElem?_toArray, List.getElem?_cons_succ, List.getElem?_cons_zero]; rfl) (by kernel_rfl) (by kernel_rfl) (by kernel_rfl) rfl (by exact fun _ _ _ h => h) (by rfl) ?_ (by assumption) ?_
            rotate_left
            · intro w hSw; (try dsimp only at hSw); go_simp; try (with_reducible rfl)
            try simp only [Act.put, List.setIfInBounds_toArray, List.set_cons_zero, List.set_cons_succ]
            refine take_runs (i := 5) (v := ?_) (by simp only [List.getElem?_toArray, List.getElem?_cons_succ, List.getElem?_cons_zero]; rfl) (by kernel_rfl) (by kernel_rfl) (by kernel_rfl) rfl (by exact fun _ _ _ h => h) (by rfl) ?_ (by assumption) ?_
            rotate_left
            · intro w hSw; (try dsimp only at hSw); go_simp; try (with_reducible rfl)
            try simp only [Act.put, List.setIfInBounds_toArray, List.set_cons_zero, List.set_cons_succ]
            refine take_runs (i := 6) (v := ?_) (by simp only [List.getElem?_toArray, List.getElem?_cons_succ, List.getElem?_cons_zero]; rfl) (by kernel_rfl) (by kernel_rfl) (by kernel_rfl) rfl (by exact fun _ _ _ h => h) (by rfl) ?_ (by assumption) ?_
            rotate_left
            · intro w hSw; (try dsimp only at hSw); go_simp; try (with_reducible rfl)
            try simp only [Act.put, List.setIfInBounds_toArray, List.set_cons_zero, List.set_cons_succ]
            refine take_runs (i := 7) (v := ?_) (by simp only [List.getElem?_toArray, List.getElem?_cons_succ, List.getElem?_cons_zero]; rfl) (by kernel_rfl) (by kernel_rfl) (by kernel_rfl) rfl (by exact fun _ _ _ h => h) (by rfl) ?_ (by assumption) ?_
            rotate_left
            · intro w hSw; (try dsimp only at hSw); go_simp; try (with_reducible rfl)
            try simp only [Act.put, List.setIfInBounds_toArray, List.set_cons_zero, List.set_cons_succ]
            refine wpAnyH_ready (rs := [8]) (by kernel_rfl) (by simp) ?_
            refine (AllReadyH.cons (o := _) (by simp only [List.getElem?_toArray, List.getElem?_cons_succ, List.getElem?_cons_zero]; rfl) (fun K hK => ?_) AllReadyH.nil)
            go_simp
            refine (specStabIndex (.slice qa qs.length qc) qs (k : Int) (wr.drew) (slR_queries (slR_below tQuery_law H1.out d.out)) HSQ.out).mono ?_
            rintro e w5 ⟨su, rfl, os, c5⟩
            replace B0 := Lib.hid ((c5.block w.heap.size (Array.getElem?_eq_some_iff.1 B0.out).1).trans B0.out)
            replace d := Lib.hid (d.out.trans (c5.mono d.out.size))
            have Z_w5 := Lib.hid (show wr.heap.size ≤ w5.heap.size from c5.size)
            clear c5
            have S5 := Lib.hid (ownsP_spans os)
            have SB5 := Lib.hid (Below.refl w5.heap.size w5)
            clear os
            have p_B0_0 := (cell_of_row w5 _ 0 _ _ _ B0.out).trans (show _ = some (Value.slice qa qs.length qc) from rfl)
            have p_B0_1 := (cell_of_row w5 _ 1 _ _ _ B0.out).trans (show _ = some (Value.slice (some ⟨b, off, none⟩) fs.length fc) from rfl)
            have p_el := (d.out.cell (p := ⟨b, off + k, none⟩) HBL.out).trans P0.out
            refine hK.out _ _ ⟨p_B0_0, p_B0_1, p_el⟩ (fun hHeld => ?_)
            clear p_B0_0 p_B0_1 p_el
            clear hK K
            try simp only [Act.put, List.setIfInBounds_toArray, List.set_cons_zero, List.set_cons_succ]
            refine wpAnyH_ready (rs := [9]) (by kernel_rfl) (by simp) ?_
            refine (AllReadyH.cons (o := _) (by simp only [List.getElem?_toArray, List.getElem?_cons_succ, List.getElem?_cons_zero]; rfl) (fun K hK => ?_) AllReadyH.nil)
            go_simp
            refine (specEqSpans (.slice ua rs.length uc) su rs (spansL qs (k : Int)) w5 (slR_spans (slR_below tSpan_law HU.out d.out)) S5.out HZU.out ZS.out).mono ?_
            rintro e w6 ⟨rfl, c6⟩
            replace B0 := Lib.hid ((c6.block w.heap.size (Array.getElem?_eq_some_iff.1 B0.out).1).trans B0.out)
            replace d := Lib.hid (d.out.trans (c6.mono d.out.size))
            have Z_w6 := Lib.hid (show w5.heap.size ≤ w6.heap.size from c6.size)
            clear c6 S5 SB5
            rw [HDE.out]
            have p_B0_0 := (cell_of_row w6 _ 0 _ _ _ B0.out).trans (show _ = some (Value.slice qa qs.length qc) from rfl)
            have p_B0_1 := (cell_of_row w6 _ 1 _ _ _ B0.out).trans (show _ = some (Value.slice (some ⟨b, off, none⟩) fs.length fc) from rfl)
            have p_el := (d.out.cell (p := ⟨b, off + k, none⟩) HBL.out).trans P0.out
            refine hK.out _ _ ⟨p_B0_0, p_B0_1, p_el⟩ (fun hHeld => ?_)
            clear p_B0_0 p_B0_1 p_el
            clear hK K
            try simp only [Act.put, List.setIfInBounds_toArray, List.set_cons_zero, List.set_cons_succ]
            refine take_runs (i := 10) (v := ?_) (by simp only [List.getElem?_toArray, List.getElem?_cons_succ, List.getElem?_cons_zero]; rfl) (by kernel_rfl) (by kernel_rfl) (by kernel_rfl) rfl (by exact fun _ _ _ h => h) (by rfl) ?_ (by assumption) ?_
            rotate_left
            · intro w hSw; (try dsimp only at hSw); go_simp; try (with_reducible rfl)
            try simp only [Act.put, List.setIfInBounds_toArray, List.set_cons_zero, List.set_cons_succ]
            refine wpAnyH_done (by kernel_rfl) ?_ _
            clear hHeld
            go_wp2
            go_ret
            exact ⟨ret_b HF.out.symm, d.out⟩
        · obtain rfl : k = 3 := by omega
          have HY := Lib.hid (isIdx_yes HQ.out HL.out hf.out)
          clear hf
          go_wp2
          go_ret
          exact ⟨ret_b HY.out.symm, hbel⟩
    · have HE := Lib.hid (isIdx_len (qs := qs) hl)
      have hne : ((fs.length : Int) != 3) = true := by rw [bne_iff_ne]; omega
      rw [HE.out]
      clear hl HE
      go_enter Try.func19, Try.ntmps19
      go_wp2_with fail
      generalize w.alloc (.cells #[.slice qa qs.length qc, .slice fa fs.length fc] 27) = W at *
      refine (HA.out W (slR_queries (slR_below tQuery_law H1.out d0.out))).mono ?_
      rintro e w1 ⟨rfl, b1⟩
      have k0 := (b1.block w.heap.size Y0.out).trans B0.out
      have D := Lib.hid (d0.out.trans (b1.mono d0.out.size))
      have c1 := (cell_of_row w1 _ 1 _ _ _ k0).trans (show _ = some (Value.slice fa fs.length fc) from rfl)
      clear b1 k0
      go_wp2
      go_ret
      exact ⟨rfl, D.out⟩
end Go.Proofs.Ytidhmgboknffkaa
namespace Go.Proofs.Ytidhmgboknffkaa
open Go.RowKit
set_option linter.unusedVariables false
set_option linter.unusedSimpArgs false
end Go.Proofs.Ytidhmgboknffkaa
namespace Go.Proofs.Ytidhmgboknffkaa
open Go.RowKit
set_option linter.unusedVariables false
/-! ### Meet -/
/-! ### Sub -/
end Go.Proofs.Ytidhmgboknffkaa
namespace Go.Proofs.Ytidhmgboknffkaa
open Go.RowKit
set_option linter.unusedVariables false
set_option linter.unusedSimpArgs false
end Go.Proofs.Ytidhmgboknffkaa
namespace Go.Proofs.Ytidhmgboknffkaa
open Go.RowKit
set_option linter.unusedVariables false
set_option linter.unusedSimpArgs false
end Go.Proofs.Ytidhmgboknffkaa
namespace Go.Proofs.Ytidhmgboknffkaa
open Go.RowKit
set_option linter.unusedVariables false
set_option linter.unusedSimpArgs false
end Go.Proofs.Ytidhmgboknffkaa
namespace Go.Proofs.Ytidhmgboknffkaa
open Go.RowKit
set_option linter.unusedVariables false
set_option linter.unusedSimpArgs false
end Go.Proofs.Ytidhmgboknffkaa
namespace Go.Proofs.Ytidhmgboknffkaa
open Go.RowKit
set_option linter.unusedVariables false
set_option linter.unusedSimpArgs false
end Go.Proofs.Ytidhmgboknffkaa
namespace Go.Proofs.Ytidhmgboknffkaa
open Go.RowKit
set_option linter.unusedVariables false
set_option linter.unusedSimpArgs false
end Go.Proofs.Ytidhmgboknffkaa
namespace Go.Proofs.Ytidhmgboknffkaa
open Go.RowKit
set_option linter.unusedVariables false
set_option linter.unusedSimpArgs false
end Go.Proofs.Ytidhmgboknffkaa
namespace Go.Proofs.Ytidhmgboknffkaa
open Go.RowKit
set_option linter.unusedVariables false
set_option linter.unusedSimpArgs false
end Go.Proofs.Ytidhmgboknffkaa
namespace Go.Proofs.Ytidhmgboknffkaa
open Go.RowKit
set_option linter.unusedVariables false
set_option linter.unusedSimpArgs false
end Go.Proofs.Ytidhmgboknffkaa
namespace Go.Proofs.Ytidhmgboknffkaa
open Go.RowKit
set_option linter.unusedVariables false
set_option linter.unusedSimpArgs false
theorem fitIsIndex (x0 : List QD) (x1 : List (List SpanD)) : ∀ (v0 v1 : Value) (w : World), SlR tQuery w v0 x0 → SlR tSpanS w v1 x1 → zL tQuery x0 + zL tSpanS x1 ≤ 1048576 →
    Calls Try.prog 19 #[.agg #[v0, v1]] w (fun e w' => e = .returned (.bool (isIndexB x0 x1)) ∧ Below w.heap.size w w') :=
  fun v0 v1 w h1 h2 hz => specIsIndex v0 v1 x0 x1 w h1 h2 (by omega) (by omega)
end Go.Proofs.Ytidhmgboknffkaa
namespace Go.Proofs.Ytidhmgboknffkaa
open Go.RowKit
set_option linter.unusedVariables false
set_option linter.unusedSimpArgs false
set_option maxHeartbeats 32000000 in
set_option maxRecDepth 100000 in
theorem law_fnExactIsIndex (v0_0 v0_1 : Value) (x0_0 : List (Int × Int × List (Int × Int × Int) × List Int)) (x0_1 : List (List (Int × Int × List Int))) (r0 : Bool) (w : World) (h0_0 : SlR tQuery w v0_0 x0_0) (h0_1 : SlR tSpanS w v0_1 x0_1) (o0_0 : tQueryS.ok x0_0) (o0_1 : tSpanSS.ok x0_1) 
    (hspec : ∀ (v0_0 v0_1 : Value) (w : World), SlR tQuery w v0_0 x0_0 → SlR tSpanS w v0_1 x0_1 → zL tQuery x0_0 + zL tSpanS x0_1 ≤ 1048576 → Calls Try.prog 19 #[.agg #[v0_0, v0_1]] w (fun e w' => e = .returned (.bool r0) ∧ Below w.heap.size w w'))
    (himpl : ∀ (v0_0 v0_1 : Value) (w : World), SlR tQuery w v0_0 x0_0 → SlR tSpanS w v0_1 x0_1 → zL tQuery x0_0 + zL tSpanS x0_1 ≤ 1048576 → Calls Try.prog 21 #[.agg #[v0_0, v0_1]] w (fun e w' => e = .returned (.bool r0) ∧ Below w.heap.size w w')) :
    Calls Try.prog 4 #[.agg #[v0_0, v0_1]] w fun e w' => e = .returned (.bool true) ∧ Below w.heap.size w w' := by
  obtain ⟨c0_0, k0_0, rfl⟩ := slR_len h0_0
  obtain ⟨c0_1, k0_1, rfl⟩ := slR_len h0_1
  have HB0 : Hid (Below w.heap.size w (w.alloc (.cells #[.slice c0_0 x0_0.length k0_0, .slice c0_1 x0_1.length k0_1] 37))) := Lib.hid ((Below.refl _ w).alloc (Nat.le_refl _) _)
  have B0 : Hid ((w.alloc (.cells #[.slice c0_0 x0_0.length k0_0, .slice c0_1 x0_1.length k0_1] 37)).heap[w.heap.size]? = some (.cells #[.slice c0_0 x0_0.length k0_0, .slice c0_1 x0_1.length k0_1] 37 (0, 0))) := Lib.hid (by have := heap_alloc_new w (.cells #[.slice c0_0 x0_0.length k0_0, .slice c0_1 x0_1.length k0_1] 37); simpa only [World.size_alloc] using this)
  have A0_0 : Hid (SlR tQuery (w.alloc (.cells #[.slice c0_0 x0_0.length k0_0, .slice c0_1 x0_1.length k0_1] 37)) (.slice c0_0 x0_0.length k0_0) x0_0) := Lib.hid (slR_below tQuery_law h0_0 HB0.out)
  have A0_1 : Hid (SlR tSpanS (w.alloc (.cells #[.slice c0_0 x0_0.length k0_0, .slice c0_1 x0_1.length k0_1] 37)) (.slice c0_1 x0_1.length k0_1) x0_1) := Lib.hid (slR_below tSpanS_law h0_1 HB0.out)
  have O0_0 := Lib.hid o0_0
  have O0_1 := Lib.hid o0_1
  clear h0_0 o0_0 h0_1 o0_1
  have HSP := Lib.hid hspec
  have HIM := Lib.hid himpl
  clear hspec himpl
  by_cases c0 : ((zL tQuery x0_0 + zL tSpanS x0_1 : Nat) : Int) ≤ (1048576 : Int)
  ·
    have HZ0 : Hid (((zL tQuery x0_0 + zL tSpanS x0_1 : Nat) : Int) ≤ (1048576 : Int)) := Lib.hid c0
    have HK0 : Hid ((1048576 : Int) ≤ 1048576) := Lib.hid (by omega)
    have hn0 : ¬ (1048576 : Int) - ((zL tQuery x0_0 + zL tSpanS x0_1 : Nat) : Int) < 0 := by omega
    have HT : Hid (zL tQuery x0_0 + zL tSpanS x0_1 ≤ 1048576) := Lib.hid (by omega)
    have S0_0 : Hid (zL tQuery x0_0 ≤ 1048576) := Lib.hid (by omega)
    have S0_1 : Hid (zL tSpanS x0_1 ≤ 1048576) := Lib.hid (by omega)
    have N0_0 := ndL_le tQuery_law (by decide) x0_0
    have N0_1 := ndL_le tSpanS_law (by decide) x0_1
    clear N0_0 N0_1
    have e0 : (r0 != r0) = false := by simp
    clear c0
    go_enter Try.func4, Try.ntmps4
    go_wp2_with fail
    have Y_W : Hid (w.heap.size + 1 ≤ (w.alloc (.cells #[.slice c0_0 x0_0.length k0_0, .slice c0_1 x0_1.length k0_1] 37)).heap.size) := Lib.hid (by simp [World.size_alloc])
    generalize (w.alloc (.cells #[.slice c0_0 x0_0.length k0_0, .slice c0_1 x0_1.length k0_1] 37)) = W at *
    have d := Lib.hid (Below.refl W.heap.size W)
    refine (szIndex_Y (.slice c0_0 x0_0.length k0_0) (.slice c0_1 x0_1.length k0_1) x0_0 x0_1 ((1048576 : Int)) W (slR_below tQuery_law A0_0.out d.out) (slR_below tSpanS_law A0_1.out d.out) HZ0.out HK0.out).mono ?_
    rintro e v1 ⟨rfl, c1⟩
    replace B0 := Lib.hid ((c1.block w.heap.size (Array.getElem?_eq_some_iff.1 B0.out).1).trans B0.out)
    replace d := Lib.hid (d.out.trans (c1.mono d.out.size))
    have Z_v1 := Lib.hid (show W.heap.size ≤ v1.heap.size from c1.size)
    clear c1
    have p_B0_0 := (cell_of_row v1 _ 0 _ _ _ B0.out).trans (show _ = some (Value.slice c0_0 x0_0.length k0_0) from rfl)
    have p_B0_1 := (cell_of_row v1 _ 1 _ _ _ B0.out).trans (show _ = some (Value.slice c0_1 x0_1.length k0_1) from rfl)
    go_wp2_with fail
    clear p_B0_0 p_B0_1
    refine (toIndex_T (.slice c0_0 x0_0.length k0_0) (.slice c0_1 x0_1.length k0_1) x0_0 x0_1 v1 (slR_below tQuery_law A0_0.out d.out) (slR_below tSpanS_law A0_1.out d.out) S0_0.out S0_1.out).mono ?_
    rintro e v2 ⟨cs, rfl, ow, c2⟩
    replace B0 := Lib.hid ((c2.block w.heap.size (Array.getElem?_eq_some_iff.1 B0.out).1).trans B0.out)
    replace d := Lib.hid (d.out.trans (c2.mono d.out.size))
    have Z_v2 := Lib.hid (show v1.heap.size ≤ v2.heap.size from c2.size)
    clear c2
    replace ow := tIndex_law.lt ow
    obtain ⟨y2_0, y2_1, K2_0, K2_1, rfl, p2_0, p2_1, w2_0, w2_1, d2_0_1⟩ := tIndex_O ow
    obtain ⟨ya2_0, yc2_0, rfl⟩ := slO_len p2_0
    have P2_0 := Lib.hid p2_0
    have Q2_0 := Lib.hid (fun b h => (show v1.heap.size ≤ b ∧ b < v2.heap.size from w2_0 b h))
    obtain ⟨ya2_1, yc2_1, rfl⟩ := slO_len p2_1
    have P2_1 := Lib.hid p2_1
    have Q2_1 := Lib.hid (fun b h => (show v1.heap.size ≤ b ∧ b < v2.heap.size from w2_1 b h))
    have D2_0_1 := Lib.hid d2_0_1
    clear d2_0_1
    clear p2_0 w2_0 p2_1 w2_1 ow
    go_wp2_with fail
    refine (HSP.out (.slice ya2_0 x0_0.length yc2_0) (.slice ya2_1 x0_1.length yc2_1) v2 (slO_reads tQuery_law P2_0.out) (slO_reads tSpanS_law P2_1.out) HT.out ).mono ?_
    rintro e v3 ⟨rfl, c3⟩
    replace B0 := Lib.hid ((c3.block w.heap.size (Array.getElem?_eq_some_iff.1 B0.out).1).trans B0.out)
    replace P2_0 := Lib.hid (slO_fresh tQuery_law P2_0.out c3)
    replace P2_1 := Lib.hid (slO_fresh tSpanS_law P2_1.out c3)
    replace d := Lib.hid (d.out.trans (c3.mono d.out.size))
    have Z_v3 := Lib.hid (show v2.heap.size ≤ v3.heap.size from c3.size)
    clear c3
    have p_B0_0 := (cell_of_row v3 _ 0 _ _ _ B0.out).trans (show _ = some (Value.slice c0_0 x0_0.length k0_0) from rfl)
    have p_B0_1 := (cell_of_row v3 _ 1 _ _ _ B0.out).trans (show _ = some (Value.slice c0_1 x0_1.length k0_1) from rfl)
    go_wp2_with fail
    clear p_B0_0 p_B0_1
    refine (toIndex_T (.slice c0_0 x0_0.length k0_0) (.slice c0_1 x0_1.length k0_1) x0_0 x0_1 v3 (slR_below tQuery_law A0_0.out d.out) (slR_below tSpanS_law A0_1.out d.out) S0_0.out S0_1.out).mono ?_
    rintro e v4 ⟨cs, rfl, ow, c4⟩
    replace B0 := Lib.hid ((c4.block w.heap.size (Array.getElem?_eq_some_iff.1 B0.out).1).trans B0.out)
    replace P2_0 := Lib.hid (slO_fresh tQuery_law P2_0.out c4)
    replace P2_1 := Lib.hid (slO_fresh tSpanS_law P2_1.out c4)
    replace d := Lib.hid (d.out.trans (c4.mono d.out.size))
    have Z_v4 := Lib.hid (show v3.heap.size ≤ v4.heap.size from c4.size)
    clear c4
    replace ow := tIndex_law.lt ow
    obtain ⟨y4_0, y4_1, K4_0, K4_1, rfl, p4_0, p4_1, w4_0, w4_1, d4_0_1⟩ := tIndex_O ow
    obtain ⟨ya4_0, yc4_0, rfl⟩ := slO_len p4_0
    have P4_0 := Lib.hid p4_0
    have Q4_0 := Lib.hid (fun b h => (show v3.heap.size ≤ b ∧ b < v4.heap.size from w4_0 b h))
    obtain ⟨ya4_1, yc4_1, rfl⟩ := slO_len p4_1
    have P4_1 := Lib.hid p4_1
    have Q4_1 := Lib.hid (fun b h => (show v3.heap.size ≤ b ∧ b < v4.heap.size from w4_1 b h))
    have D4_0_1 := Lib.hid d4_0_1
    clear d4_0_1
    clear p4_0 w4_0 p4_1 w4_1 ow
    have hal : Below v4.heap.size v4 (v4.alloc (.cells #[.slice ya4_0 x0_0.length yc4_0, .slice ya4_1 x0_1.length yc4_1] 27)) := (Below.refl _ _).alloc (Nat.le_refl _) _
    have X1 := Lib.hid (heap_alloc_new v4 (.cells #[.slice ya4_0 x0_0.length yc4_0, .slice ya4_1 x0_1.length yc4_1] 27))
    have Y_X1 := Lib.hid (show v4.heap.size < (v4.alloc (.cells #[.slice ya4_0 x0_0.length yc4_0, .slice ya4_1 x0_1.length yc4_1] 27)).heap.size by simp [World.size_alloc])
    replace B0 := Lib.hid ((hal.block w.heap.size (Array.getElem?_eq_some_iff.1 B0.out).1).trans B0.out)
    replace P2_0 := Lib.hid (slO_fresh tQuery_law P2_0.out hal)
    replace P2_1 := Lib.hid (slO_fresh tSpanS_law P2_1.out hal)
    replace P4_0 := Lib.hid (slO_fresh tQuery_law P4_0.out hal)
    replace P4_1 := Lib.hid (slO_fresh tSpanS_law P4_1.out hal)
    replace d := Lib.hid (d.out.trans (hal.mono d.out.size))
    clear hal
    have p_X1_0 := (cell_of_row (v4.alloc (.cells #[.slice ya4_0 x0_0.length yc4_0, .slice ya4_1 x0_1.length yc4_1] 27)) _ 0 _ _ _ X1.out).trans (show _ = some (Value.slice ya4_0 x0_0.length yc4_0) from rfl)
    have p_X1_1 := (cell_of_row (v4.alloc (.cells #[.slice ya4_0 x0_0.length yc4_0, .slice ya4_1 x0_1.length yc4_1] 27)) _ 1 _ _ _ X1.out).trans (show _ = some (Value.slice ya4_1 x0_1.length yc4_1) from rfl)
    go_wp2_with fail
    clear p_X1_0 p_X1_1
    generalize (v4.alloc (.cells #[.slice ya4_0 x0_0.length yc4_0, .slice ya4_1 x0_1.length yc4_1] 27)) = u5 at *
    refine (HIM.out (.slice ya4_0 x0_0.length yc4_0) (.slice ya4_1 x0_1.length yc4_1) u5 (slO_reads tQuery_law P4_0.out) (slO_reads tSpanS_law P4_1.out) HT.out ).mono ?_
    rintro e v6 ⟨rfl, c6⟩
    replace B0 := Lib.hid ((c6.block w.heap.size (Array.getElem?_eq_some_iff.1 B0.out).1).trans B0.out)
    replace X1 := Lib.hid ((c6.block v4.heap.size (Array.getElem?_eq_some_iff.1 X1.out).1).trans X1.out)
    replace P2_0 := Lib.hid (slO_fresh tQuery_law P2_0.out c6)
    replace P2_1 := Lib.hid (slO_fresh tSpanS_law P2_1.out c6)
    replace P4_0 := Lib.hid (slO_fresh tQuery_law P4_0.out c6)
    replace P4_1 := Lib.hid (slO_fresh tSpanS_law P4_1.out c6)
    replace d := Lib.hid (d.out.trans (c6.mono d.out.size))
    have Z_v6 := Lib.hid (show u5.heap.size ≤ v6.heap.size from c6.size)
    clear c6
    go_wp2
    have p_B0_0 := (cell_of_row v6 _ 0 _ _ _ B0.out).trans (show _ = some (Value.slice c0_0 x0_0.length k0_0) from rfl)
    have p_B0_1 := (cell_of_row v6 _ 1 _ _ _ B0.out).trans (show _ = some (Value.slice c0_1 x0_1.length k0_1) from rfl)
    have p_X1_0 := (cell_of_row v6 _ 0 _ _ _ X1.out).trans (show _ = some (Value.slice ya4_0 x0_0.length yc4_0) from rfl)
    have p_X1_1 := (cell_of_row v6 _ 1 _ _ _ X1.out).trans (show _ = some (Value.slice ya4_1 x0_1.length yc4_1) from rfl)
    refine wp_region_held_drew (S := fun w' => w'.cell? ⟨w.heap.size, 0, none⟩ = some (Value.slice c0_0 x0_0.length k0_0) ∧ w'.cell? ⟨w.heap.size, 1, none⟩ = some (Value.slice c0_1 x0_1.length k0_1) ∧ w'.cell? ⟨v4.heap.size, 0, none⟩ = some (Value.slice ya4_0 x0_0.length yc4_0) ∧ w'.cell? ⟨v4.heap.size, 1, none⟩ = some (Value.slice ya4_1 x0_1.length yc4_1)) (by kernel_rfl) ⟨p_B0_0, p_B0_1, p_X1_0, p_X1_1⟩ (fun hHeld => ?_)
    clear p_B0_0 p_B0_1 p_X1_0 p_X1_1
    have cd7 : Below v6.heap.size v6 v6.drew := below_drew (Below.refl _ _)
    replace B0 := Lib.hid ((cd7.block w.heap.size (Array.getElem?_eq_some_iff.1 B0.out).1).trans B0.out)
    replace X1 := Lib.hid ((cd7.block v4.heap.size (Array.getElem?_eq_some_iff.1 X1.out).1).trans X1.out)
    replace P2_0 := Lib.hid (slO_fresh tQuery_law P2_0.out cd7)
    replace P2_1 := Lib.hid (slO_fresh tSpanS_law P2_1.out cd7)
    replace P4_0 := Lib.hid (slO_fresh tQuery_law P4_0.out cd7)
    replace P4_1 := Lib.hid (slO_fresh tSpanS_law P4_1.out cd7)
    replace d := Lib.hid (d.out.trans (cd7.mono d.out.size))
    clear cd7
    refine take_runs (i := 0) (v := ?_) (by simp only [List.getElem?_toArray, List.getElem?_cons_succ, List.getElem?_cons_zero]; rfl) (by kernel_rfl) (by kernel_rfl) (by kernel_rfl) rfl (by exact fun _ _ _ h => h) (by rfl) ?_ (by assumption) ?_
    rotate_left
    · intro w hSw; (try dsimp only at hSw); go_simp; try (with_reducible rfl)
    try simp only [Act.put, List.setIfInBounds_toArray, List.set_cons_zero, List.set_cons_succ]
    refine take_runs (i := 1) (v := ?_) (by simp only [List.getElem?_toArray, List.getElem?_cons_succ, List.getElem?_cons_zero]; rfl) (by kernel_rfl) (by kernel_rfl) (by kernel_rfl) rfl (by exact fun _ _ _ h => h) (by rfl) ?_ (by assumption) ?_
    rotate_left
    · intro w hSw; (try dsimp only at hSw); go_simp; try (with_reducible rfl)
    try simp only [Act.put, List.setIfInBounds_toArray, List.set_cons_zero, List.set_cons_succ]
    refine wpAnyH_ready (rs := [2]) (by kernel_rfl) (by simp) ?_
    refine AllReadyH.cons (o := _) (by simp only [List.getElem?_toArray, List.getElem?_cons_succ, List.getElem?_cons_zero]; rfl) (fun K hK => ?_) AllReadyH.nil
    go_simp
    refine (toIndex_T (.slice c0_0 x0_0.length k0_0) (.slice c0_1 x0_1.length k0_1) x0_0 x0_1 (v6.drew) (slR_below tQuery_law A0_0.out d.out) (slR_below tSpanS_law A0_1.out d.out) S0_0.out S0_1.out).mono ?_
    rintro e v8 ⟨cs, rfl, ow, c8⟩
    replace B0 := Lib.hid ((c8.block w.heap.size (Array.getElem?_eq_some_iff.1 B0.out).1).trans B0.out)
    replace X1 := Lib.hid ((c8.block v4.heap.size (Array.getElem?_eq_some_iff.1 X1.out).1).trans X1.out)
    replace P2_0 := Lib.hid (slO_fresh tQuery_law P2_0.out c8)
    replace P2_1 := Lib.hid (slO_fresh tSpanS_law P2_1.out c8)
    replace P4_0 := Lib.hid (slO_fresh tQuery_law P4_0.out c8)
    replace P4_1 := Lib.hid (slO_fresh tSpanS_law P4_1.out c8)
    replace d := Lib.hid (d.out.trans (c8.mono d.out.size))
    have Z_v8 := Lib.hid (show v6.heap.size ≤ v8.heap.size from c8.size)
    clear c8
    replace ow := tIndex_law.lt ow
    obtain ⟨y8_0, y8_1, K8_0, K8_1, rfl, p8_0, p8_1, w8_0, w8_1, d8_0_1⟩ := tIndex_O ow
    obtain ⟨ya8_0, yc8_0, rfl⟩ := slO_len p8_0
    have P8_0 := Lib.hid p8_0
    have Q8_0 := Lib.hid (fun b h => (show (v6.drew).heap.size ≤ b ∧ b < v8.heap.size from w8_0 b h))
    obtain ⟨ya8_1, yc8_1, rfl⟩ := slO_len p8_1
    have P8_1 := Lib.hid p8_1
    have Q8_1 := Lib.hid (fun b h => (show (v6.drew).heap.size ≤ b ∧ b < v8.heap.size from w8_1 b h))
    have D8_0_1 := Lib.hid d8_0_1
    clear d8_0_1
    clear p8_0 w8_0 p8_1 w8_1 ow
    have p_B0_0 := (cell_of_row v8 _ 0 _ _ _ B0.out).trans (show _ = some (Value.slice c0_0 x0_0.length k0_0) from rfl)
    have p_B0_1 := (cell_of_row v8 _ 1 _ _ _ B0.out).trans (show _ = some (Value.slice c0_1 x0_1.length k0_1) from rfl)
    have p_X1_0 := (cell_of_row v8 _ 0 _ _ _ X1.out).trans (show _ = some (Value.slice ya4_0 x0_0.length yc4_0) from rfl)
    have p_X1_1 := (cell_of_row v8 _ 1 _ _ _ X1.out).trans (show _ = some (Value.slice ya4_1 x0_1.length yc4_1) from rfl)
    refine hK.out _ _ ⟨p_B0_0, p_B0_1, p_X1_0, p_X1_1⟩ (fun hHeld => ?_)
    clear p_B0_0 p_B0_1 p_X1_0 p_X1_1
    clear hK K
    try simp only [Act.put, List.setIfInBounds_toArray, List.set_cons_zero, List.set_cons_succ]
    refine wpAnyH_ready (rs := [3]) (by kernel_rfl) (by simp) ?_
    refine AllReadyH.cons (o := _) (by simp only [List.getElem?_toArray, List.getElem?_cons_succ, List.getElem?_cons_zero]; rfl) (fun K hK => ?_) AllReadyH.nil
    go_simp
    refine (eqIndex_T (.slice ya4_0 x0_0.length yc4_0) (.slice ya4_1 x0_1.length yc4_1) x0_0 x0_1 (.slice ya8_0 x0_0.length yc8_0) (.slice ya8_1 x0_1.length yc8_1) v8 (slO_reads tQuery_law P4_0.out) (slO_reads tSpanS_law P4_1.out) (slO_reads tQuery_law P8_0.out) (slO_reads tSpanS_law P8_1.out) S0_0.out S0_1.out).mono ?_
    rintro e v9 ⟨rfl, c9⟩
    replace B0 := Lib.hid ((c9.block w.heap.size (Array.getElem?_eq_some_iff.1 B0.out).1).trans B0.out)
    replace X1 := Lib.hid ((c9.block v4.heap.size (Array.getElem?_eq_some_iff.1 X1.out).1).trans X1.out)
    replace P2_0 := Lib.hid (slO_fresh tQuery_law P2_0.out c9)
    replace P2_1 := Lib.hid (slO_fresh tSpanS_law P2_1.out c9)
    replace P4_0 := Lib.hid (slO_fresh tQuery_law P4_0.out c9)
    replace P4_1 := Lib.hid (slO_fresh tSpanS_law P4_1.out c9)
    replace P8_0 := Lib.hid (slO_fresh tQuery_law P8_0.out c9)
    replace P8_1 := Lib.hid (slO_fresh tSpanS_law P8_1.out c9)
    replace d := Lib.hid (d.out.trans (c9.mono d.out.size))
    have Z_v9 := Lib.hid (show v8.heap.size ≤ v9.heap.size from c9.size)
    clear c9
    clear P8_0 P8_1
    have p_B0_0 := (cell_of_row v9 _ 0 _ _ _ B0.out).trans (show _ = some (Value.slice c0_0 x0_0.length k0_0) from rfl)
    have p_B0_1 := (cell_of_row v9 _ 1 _ _ _ B0.out).trans (show _ = some (Value.slice c0_1 x0_1.length k0_1) from rfl)
    have p_X1_0 := (cell_of_row v9 _ 0 _ _ _ X1.out).trans (show _ = some (Value.slice ya4_0 x0_0.length yc4_0) from rfl)
    have p_X1_1 := (cell_of_row v9 _ 1 _ _ _ X1.out).trans (show _ = some (Value.slice ya4_1 x0_1.length yc4_1) from rfl)
    refine hK.out _ _ ⟨p_B0_0, p_B0_1, p_X1_0, p_X1_1⟩ (fun hHeld => ?_)
    clear p_B0_0 p_B0_1 p_X1_0 p_X1_1
    clear hK K
    try simp only [Act.put, List.setIfInBounds_toArray, List.set_cons_zero, List.set_cons_succ]
    refine take_runs (i := 4) (v := ?_) (by simp only [List.getElem?_toArray, List.getElem?_cons_succ, List.getElem?_cons_zero]; rfl) (by kernel_rfl) (by kernel_rfl) (by kernel_rfl) rfl (by exact fun _ _ _ h => h) (by rfl) ?_ (by assumption) ?_
    rotate_left
    · intro w hSw; (try dsimp only at hSw); go_simp; try (with_reducible rfl)
    try simp only [Act.put, List.setIfInBounds_toArray, List.set_cons_zero, List.set_cons_succ]
    refine wpAnyH_done (by kernel_rfl) ?_ _
    clear hHeld
    go_wp2
    go_ret
    exact ⟨rfl, HB0.out.trans (d.out.mono HB0.out.size)⟩
  ·
    have HZ0 : Hid ((1048576 : Int) < ((zL tQuery x0_0 + zL tSpanS x0_1 : Nat) : Int)) := Lib.hid (by omega)
    have HP0 : Hid (0 ≤ (1048576 : Int)) := Lib.hid (by omega)
    have HK0 : Hid ((1048576 : Int) ≤ 1048576) := Lib.hid (by omega)
    clear c0
    go_enter Try.func4, Try.ntmps4
    go_wp2_with fail
    have Y_W : Hid (w.heap.size + 1 ≤ (w.alloc (.cells #[.slice c0_0 x0_0.length k0_0, .slice c0_1 x0_1.length k0_1] 37)).heap.size) := Lib.hid (by simp [World.size_alloc])
    generalize (w.alloc (.cells #[.slice c0_0 x0_0.length k0_0, .slice c0_1 x0_1.length k0_1] 37)) = W at *
    have d := Lib.hid (Below.refl W.heap.size W)
    refine (szIndex_N (.slice c0_0 x0_0.length k0_0) (.slice c0_1 x0_1.length k0_1) x0_0 x0_1 ((1048576 : Int)) W (slR_below tQuery_law A0_0.out d.out) (slR_below tSpanS_law A0_1.out d.out) HZ0.out HK0.out HP0.out O0_0.out O0_1.out).mono ?_
    rintro e v1 ⟨rfl, c1⟩
    replace B0 := Lib.hid ((c1.block w.heap.size (Array.getElem?_eq_some_iff.1 B0.out).1).trans B0.out)
    replace d := Lib.hid (d.out.trans (c1.mono d.out.size))
    have Z_v1 := Lib.hid (show W.heap.size ≤ v1.heap.size from c1.size)
    clear c1
    go_wp2
    go_ret
    exact ⟨rfl, HB0.out.trans (d.out.mono HB0.out.size)⟩
end Go.Proofs.Ytidhmgboknffkaa
namespace Go.Proofs.Ytidhmgboknffkaa
open Go.ChangeShapes Go.WideShapes Go.ChangeAt Go.WideMaps Go.WideElems Go.RowKit
set_option linter.unusedVariables false
theorem laidOutP : laidOutB Try.prog = true := by kernel_rfl
end Go.Proofs.Ytidhmgboknffkaa
namespace Go.Proofs.Ytidhmgboknffkaa
open Go.ChangeShapes Go.WideShapes Go.ChangeAt Go.WideMaps Go.WideElems Go.RowKit
set_option linter.unusedVariables false
/-- Cells that the statement reads as a value of the type t are a datum of the kind T. -/
def Opn {α : Type} (T : Ty α) (t : TypeId) : Prop := ∀ {H : Type} {enc : TypeId × Value → H} {W : World} {held : Bool} {fuel : Nat} {cs : List Value} {x : DataW H × List MemPlace}, DataW.trod enc Try.prog W 0 (fun _ => true) held fuel t cs = some x → ∃ d, T.R W cs d ∧ T.ok d
theorem opn_int : Opn tInt 3 := by
  intro H enc W held fuel cs x h
  obtain ⟨a, e, _, _⟩ := DataW.trod_int Try.underlying3 h
  exact ⟨a, e, trivial⟩
theorem opn_cast {α : Type} {T : Ty α} {t : TypeId} (O : Opn T t) {H : Type} {enc : TypeId × Value → H} {W : World} {held : Bool} {fuel : Nat} {cs : List Value} {o k : Nat} {x : Option (DataW H × List MemPlace)} (hx : x.isSome) (h : DataW.trod enc Try.prog W 0 (fun _ => true) held fuel t ((cs.drop o).take k) = x) :
    ∃ d, T.R W ((cs.drop o).take k) d ∧ T.ok d := by
  cases x with
  | none => cases hx
  | some y => exact O h
set_option maxRecDepth 100000 in
theorem opn_slice {α : Type} {T : Ty α} (A : T.Law) {e t : TypeId} (e' : TypeId) (O : Opn T e) (hu : Try.prog.underlying t = some (.slice e)) (hC : Try.prog.cellsOf e = T.n) : Opn (tSl e' T) t := by
  intro H enc W held fuel cs x hf
  rcases Go.Deep.open_slice hu hf with ⟨rfl, _⟩ | ⟨a', len', cap', m, n, D, Pl, rfl, _, hl, hm, hmm, _, hx⟩
  · exact ⟨[], ⟨_, rfl, Or.inl ⟨rfl, none, 0, rfl⟩⟩, by simp, fun j hj => by simp at hj⟩
  · rw [if_pos rfl] at hmm
    subst hmm
    unfold maxLen at hm
    rw [hC] at hx
    have hpos := A.pos
    haveI : Inhabited α := ⟨T.d⟩
    obtain ⟨f, hf'⟩ := Go.Deep.choose_lt (α := α × List Value) (n := len') (p := fun i q => (∀ j, j < T.n → W.cell? ((a'.add (i * T.n)).add j) = q.2[j]?) ∧ T.R W q.2 q.1 ∧ T.ok q.1) (fun i hi => by
      obtain ⟨cs', h1, h2⟩ := hx i (by omega)
      obtain ⟨_, hlen, hc⟩ := World.cells?_some h1
      obtain ⟨d, hd, ho⟩ := O h2
      exact ⟨(d, cs'), hc, hd, ho⟩)
    have hat : ∀ j, j < len' → ((List.range len').map fun i => (f i).1).getD j T.d = (f j).1 := fun j hj => by simp [List.getD, hj]
    have hlen : ((List.range len').map fun i => (f i).1).length = len' := by simp
    refine ⟨(List.range len').map fun i => (f i).1, ⟨_, rfl, ?_⟩, by rw [hlen]; omega, fun j hj => by rw [hlen] at hj; rw [hat j hj]; exact (hf' j hj).2.2⟩
    by_cases h0 : len' = 0
    · subst h0
      exact Or.inl ⟨rfl, some a', _, rfl⟩
    · have h1 := (hf' 0 (by omega)).1 0 hpos
      have hcl : 0 < (f 0).2.length := by rw [A.len (hf' 0 (by omega)).2.1]; exact hpos
      rw [List.getElem?_eq_getElem hcl] at h1
      obtain ⟨b, off, spot⟩ := a'
      have hspot : spot = none := by simpa [Addr.add] using World.cell?_spot h1
      subst hspot
      refine Or.inr ⟨b, off, _, fun i => (f i).2, by rw [hlen], by rw [hlen]; exact hl, ?_, ?_⟩
      · have := World.block_lt_of_cell? W _ h1
        simpa [Addr.add] using this
      · intro j hj
        rw [hlen] at hj
        obtain ⟨g1, g2, _⟩ := hf' j hj
        rw [hat j hj]
        refine ⟨fun i hi => ?_, g2⟩
        have := g1 i hi
        rw [Go.WideShapes.add_plain, Go.WideShapes.add_plain] at this
        exact this
theorem opn_ints (e' : TypeId) : Opn (tSl e' tInt) 50 := opn_slice tInt_law e' opn_int Try.underlying50 (by kernel_rfl)
set_option maxRecDepth 100000 in
/-- A struct as an argument. -/
theorem stA_open {α : Type} {T : Ty α} {t : TypeId} {fs : Array Field} (O : Opn T t) (hu : Try.prog.underlying t = some (.struct fs)) {H : Type} {enc : TypeId × Value → H} {W : World} {r : Reach} {b0 : Nat} {v : Value} {d : DataW H} {p : List MemPlace}
    (hval : Value.okWide Try.prog W r b0 t v) (h : DataW.Trod enc Try.prog W 0 (fun _ => true) true t v d p) : ∃ cs x, v = .agg cs.toArray ∧ T.R W cs x ∧ T.ok x := by
  obtain ⟨⟨cs⟩, rfl, hsz⟩ := okWide_struct hu hval
  obtain ⟨fuel, hf⟩ := h
  obtain ⟨x, h, ho⟩ := O hf
  exact ⟨cs, x, rfl, h, ho⟩
end Go.Proofs.Ytidhmgboknffkaa
namespace Go.Proofs.Ytidhmgboknffkaa
open Go.ChangeShapes Go.WideShapes Go.ChangeAt Go.WideMaps Go.WideElems Go.RowKit
set_option linter.unusedVariables false
set_option maxRecDepth 100000 in
theorem opn_Cond : Opn tCond 133 := by
  intro H enc W held fuel cs x h
  obtain ⟨xs, n, _, _, hl, hlen, hf⟩ := DataW.trod_struct Try.underlying133 h
  have hl2 : cs.length = 3 := hl.trans (by kernel_rfl)
  have hn : xs.length = 3 := hlen
  have f0 : DataW.trod enc Try.prog W 0 (fun _ => true) held n 3 ((cs.drop 0).take (Try.prog.cellsOf 3)) = xs[0]? := hf 0 _ rfl
  rw [show Try.prog.cellsOf 3 = 1 from by kernel_rfl] at f0
  obtain ⟨d0, r0, o0⟩ := opn_cast (opn_int) (by rw [List.getElem?_eq_getElem (by omega)]; rfl) f0
  have f1 : DataW.trod enc Try.prog W 0 (fun _ => true) held n 3 ((cs.drop 1).take (Try.prog.cellsOf 3)) = xs[1]? := hf 1 _ rfl
  rw [show Try.prog.cellsOf 3 = 1 from by kernel_rfl] at f1
  obtain ⟨d1, r1, o1⟩ := opn_cast (opn_int) (by rw [List.getElem?_eq_getElem (by omega)]; rfl) f1
  have f2 : DataW.trod enc Try.prog W 0 (fun _ => true) held n 3 ((cs.drop 2).take (Try.prog.cellsOf 3)) = xs[2]? := hf 2 _ rfl
  rw [show Try.prog.cellsOf 3 = 1 from by kernel_rfl] at f2
  obtain ⟨d2, r2, o2⟩ := opn_cast (opn_int) (by rw [List.getElem?_eq_getElem (by omega)]; rfl) f2
  exact ⟨(d0, d1, d2), ⟨(cs.drop 0).take 1, cs.drop 1, (List.take_append_drop 1 cs).symm, r0, ⟨(cs.drop 1).take 1, cs.drop 2, (List.take_append_drop 1 (cs.drop 1)).symm.trans (by simp), r1, (by have e := List.take_of_length_le (l := cs.drop 2) (i := 1) (by rw [List.length_drop]; omega); rw [e] at r2; exact r2)⟩⟩, ⟨o0, ⟨o1, o2⟩⟩⟩
end Go.Proofs.Ytidhmgboknffkaa
namespace Go.Proofs.Ytidhmgboknffkaa
open Go.ChangeShapes Go.WideShapes Go.ChangeAt Go.WideMaps Go.WideElems Go.RowKit
set_option linter.unusedVariables false
theorem opn_CondS : Opn tCondS 66 := opn_slice tCond_law _ opn_Cond Try.underlying66 (by kernel_rfl)
end Go.Proofs.Ytidhmgboknffkaa
namespace Go.Proofs.Ytidhmgboknffkaa
open Go.ChangeShapes Go.WideShapes Go.ChangeAt Go.WideMaps Go.WideElems Go.RowKit
set_option linter.unusedVariables false
set_option maxRecDepth 100000 in
theorem opn_Query : Opn tQuery 68 := by
  intro H enc W held fuel cs x h
  obtain ⟨xs, n, _, _, hl, hlen, hf⟩ := DataW.trod_struct Try.underlying68 h
  have hl2 : cs.length = 4 := hl.trans (by kernel_rfl)
  have hn : xs.length = 4 := hlen
  have f0 : DataW.trod enc Try.prog W 0 (fun _ => true) held n 3 ((cs.drop 0).take (Try.prog.cellsOf 3)) = xs[0]? := hf 0 _ rfl
  rw [show Try.prog.cellsOf 3 = 1 from by kernel_rfl] at f0
  obtain ⟨d0, r0, o0⟩ := opn_cast (opn_int) (by rw [List.getElem?_eq_getElem (by omega)]; rfl) f0
  have f1 : DataW.trod enc Try.prog W 0 (fun _ => true) held n 3 ((cs.drop 1).take (Try.prog.cellsOf 3)) = xs[1]? := hf 1 _ rfl
  rw [show Try.prog.cellsOf 3 = 1 from by kernel_rfl] at f1
  obtain ⟨d1, r1, o1⟩ := opn_cast (opn_int) (by rw [List.getElem?_eq_getElem (by omega)]; rfl) f1
  have f2 : DataW.trod enc Try.prog W 0 (fun _ => true) held n 66 ((cs.drop 2).take (Try.prog.cellsOf 66)) = xs[2]? := hf 2 _ rfl
  rw [show Try.prog.cellsOf 66 = 1 from by kernel_rfl] at f2
  obtain ⟨d2, r2, o2⟩ := opn_cast (opn_CondS) (by rw [List.getElem?_eq_getElem (by omega)]; rfl) f2
  have f3 : DataW.trod enc Try.prog W 0 (fun _ => true) held n 50 ((cs.drop 3).take (Try.prog.cellsOf 50)) = xs[3]? := hf 3 _ rfl
  rw [show Try.prog.cellsOf 50 = 1 from by kernel_rfl] at f3
  obtain ⟨d3, r3, o3⟩ := opn_cast (opn_ints 3) (by rw [List.getElem?_eq_getElem (by omega)]; rfl) f3
  exact ⟨(d0, d1, d2, d3), ⟨(cs.drop 0).take 1, cs.drop 1, (List.take_append_drop 1 cs).symm, r0, ⟨(cs.drop 1).take 1, cs.drop 2, (List.take_append_drop 1 (cs.drop 1)).symm.trans (by simp), r1, ⟨(cs.drop 2).take 1, cs.drop 3, (List.take_append_drop 1 (cs.drop 2)).symm.trans (by simp), r2, (by have e := List.take_of_length_le (l := cs.drop 3) (i := 1) (by rw [List.length_drop]; omega); rw [e] at r3; exact r3)⟩⟩⟩, ⟨o0, ⟨o1, ⟨o2, o3⟩⟩⟩⟩
end Go.Proofs.Ytidhmgboknffkaa
namespace Go.Proofs.Ytidhmgboknffkaa
open Go.ChangeShapes Go.WideShapes Go.ChangeAt Go.WideMaps Go.WideElems Go.RowKit
set_option linter.unusedVariables false
theorem opn_QueryS : Opn tQueryS 22 := opn_slice tQuery_law _ opn_Query Try.underlying22 (by kernel_rfl)
end Go.Proofs.Ytidhmgboknffkaa
namespace Go.Proofs.Ytidhmgboknffkaa
open Go.ChangeShapes Go.WideShapes Go.ChangeAt Go.WideMaps Go.WideElems Go.RowKit
set_option linter.unusedVariables false
set_option maxRecDepth 100000 in
theorem opn_Span : Opn tSpan 103 := by
  intro H enc W held fuel cs x h
  obtain ⟨xs, n, _, _, hl, hlen, hf⟩ := DataW.trod_struct Try.underlying103 h
  have hl2 : cs.length = 3 := hl.trans (by kernel_rfl)
  have hn : xs.length = 3 := hlen
  have f0 : DataW.trod enc Try.prog W 0 (fun _ => true) held n 3 ((cs.drop 0).take (Try.prog.cellsOf 3)) = xs[0]? := hf 0 _ rfl
  rw [show Try.prog.cellsOf 3 = 1 from by kernel_rfl] at f0
  obtain ⟨d0, r0, o0⟩ := opn_cast (opn_int) (by rw [List.getElem?_eq_getElem (by omega)]; rfl) f0
  have f1 : DataW.trod enc Try.prog W 0 (fun _ => true) held n 3 ((cs.drop 1).take (Try.prog.cellsOf 3)) = xs[1]? := hf 1 _ rfl
  rw [show Try.prog.cellsOf 3 = 1 from by kernel_rfl] at f1
  obtain ⟨d1, r1, o1⟩ := opn_cast (opn_int) (by rw [List.getElem?_eq_getElem (by omega)]; rfl) f1
  have f2 : DataW.trod enc Try.prog W 0 (fun _ => true) held n 50 ((cs.drop 2).take (Try.prog.cellsOf 50)) = xs[2]? := hf 2 _ rfl
  rw [show Try.prog.cellsOf 50 = 1 from by kernel_rfl] at f2
  obtain ⟨d2, r2, o2⟩ := opn_cast (opn_ints 3) (by rw [List.getElem?_eq_getElem (by omega)]; rfl) f2
  exact ⟨(d0, d1, d2), ⟨(cs.drop 0).take 1, cs.drop 1, (List.take_append_drop 1 cs).symm, r0, ⟨(cs.drop 1).take 1, cs.drop 2, (List.take_append_drop 1 (cs.drop 1)).symm.trans (by simp), r1, (by have e := List.take_of_length_le (l := cs.drop 2) (i := 1) (by rw [List.length_drop]; omega); rw [e] at r2; exact r2)⟩⟩, ⟨o0, ⟨o1, o2⟩⟩⟩
end Go.Proofs.Ytidhmgboknffkaa
namespace Go.Proofs.Ytidhmgboknffkaa
open Go.ChangeShapes Go.WideShapes Go.ChangeAt Go.WideMaps Go.WideElems Go.RowKit
set_option linter.unusedVariables false
theorem opn_SpanS : Opn tSpanS 60 := opn_slice tSpan_law _ opn_Span Try.underlying60 (by kernel_rfl)
end Go.Proofs.Ytidhmgboknffkaa
namespace Go.Proofs.Ytidhmgboknffkaa
open Go.ChangeShapes Go.WideShapes Go.ChangeAt Go.WideMaps Go.WideElems Go.RowKit
set_option linter.unusedVariables false
theorem opn_SpanSS : Opn tSpanSS 35 := opn_slice tSpanS_law _ opn_SpanS Try.underlying35 (by kernel_rfl)
end Go.Proofs.Ytidhmgboknffkaa
namespace Go.Proofs.Ytidhmgboknffkaa
open Go.ChangeShapes Go.WideShapes Go.ChangeAt Go.WideMaps Go.WideElems Go.RowKit
set_option linter.unusedVariables false
theorem recT_Index : Try.prog.readableRec 37 = true := by kernel_rfl
theorem rowT_Index : 37 < Try.prog.types.size := of_decide_eq_true (by kernel_rfl)
set_option maxRecDepth 100000 in
theorem opn_Index : Opn tIndex 37 := by
  intro H enc W held fuel cs x h
  obtain ⟨xs, n, _, _, hl, hlen, hf⟩ := DataW.trod_struct Try.underlying37 h
  have hl2 : cs.length = 2 := hl.trans (by kernel_rfl)
  have hn : xs.length = 2 := hlen
  have f0 : DataW.trod enc Try.prog W 0 (fun _ => true) held n 22 ((cs.drop 0).take (Try.prog.cellsOf 22)) = xs[0]? := hf 0 _ rfl
  rw [show Try.prog.cellsOf 22 = 1 from by kernel_rfl] at f0
  obtain ⟨d0, r0, o0⟩ := opn_cast (opn_QueryS) (by rw [List.getElem?_eq_getElem (by omega)]; rfl) f0
  have f1 : DataW.trod enc Try.prog W 0 (fun _ => true) held n 35 ((cs.drop 1).take (Try.prog.cellsOf 35)) = xs[1]? := hf 1 _ rfl
  rw [show Try.prog.cellsOf 35 = 1 from by kernel_rfl] at f1
  obtain ⟨d1, r1, o1⟩ := opn_cast (opn_SpanSS) (by rw [List.getElem?_eq_getElem (by omega)]; rfl) f1
  exact ⟨(d0, d1), ⟨(cs.drop 0).take 1, cs.drop 1, (List.take_append_drop 1 cs).symm, r0, (by have e := List.take_of_length_le (l := cs.drop 1) (i := 1) (by rw [List.length_drop]; omega); rw [e] at r1; exact r1)⟩, ⟨o0, o1⟩⟩
set_option maxRecDepth 100000 in
theorem shut_Index {H : Type} {enc : TypeId × Value → H} {W W' : World} {v : Value} {d : DataW H} {ps : List MemPlace} (h : DataW.Trod enc Try.prog W 0 (fun _ => true) true 37 v d ps) (hb : Below W.heap.size W W') (hlt : ∀ x ∈ ps, x.block < W.heap.size) :
    DataW.Trod enc Try.prog W' 0 (fun b => decide (b < W.heap.size)) true 37 v d ps := Below.trod laidOutP recT_Index rowT_Index h hb hlt
end Go.Proofs.Ytidhmgboknffkaa
