/-
  Texts of the proof, merged: AdmW, LawStepBound, OpenInts, OpnT, LawWorstStep, OCharge, OChargeS.
-/
import Derived.Test.YtjeaimdnddelpaaAD1
import Derived.Lib.MinMax
import Derived.ProofKit
import Derived.OpenShut
import Derived.Carry
import Derived.Lib.SmallJoins
import Derived.Deep.Slices
namespace Go.Proofs.Ytjeaimdnddelpaa
open Go.RowKit
set_option linter.unusedVariables false
set_option linter.unusedSimpArgs false
set_option maxHeartbeats 8000000 in
set_option maxRecDepth 100000 in
theorem specStepBound (a : Int) (w : World) : Calls Try.prog 5 #[.int .i64 a] w (fun e w' => e = .returned (.int .i64 (boundN a)) ∧ Below w.heap.size w w') := by
  have d := Lib.hid (Below.refl w.heap.size w)
  by_cases h : 1 ≤ a ∧ a ≤ 8
  · have HF := Lib.hid (boundN_yes h)
    have D := Lib.hid (decide_eq_true h)
    obtain ⟨h1, h2⟩ := h
    go_enter Try.func5, Try.ntmps5
    go_wp2_with fail
    refine (in_any a 1 8 w).mono ?_
    rintro e wx ⟨rfl, hwx⟩
    obtain rfl := hwx.symm
    rw [D.out]
    go_wp2
    go_ret
    exact ⟨ret_n HF.out.symm, d.out⟩
  · have HF := Lib.hid (boundN_no h)
    have D := Lib.hid (decide_eq_false h)
    clear h
    go_enter Try.func5, Try.ntmps5
    go_wp2_with fail
    refine (in_any a 1 8 w).mono ?_
    rintro e wx ⟨rfl, hwx⟩
    obtain rfl := hwx.symm
    rw [D.out]
    go_wp2
    go_ret
    exact ⟨ret_n HF.out.symm, d.out⟩
set_option maxHeartbeats 8000000 in
set_option maxRecDepth 100000 in
theorem implStepBound (a : Int) (w : World) : Calls Try.prog 6 #[.int .i64 a] w (fun e w' => e = .returned (.int .i64 (boundN a)) ∧ Below w.heap.size w w') := by
  have d := Lib.hid (Below.refl w.heap.size w)
  by_cases h : 1 ≤ a ∧ a ≤ 8
  · have HF := Lib.hid (boundN_yes h)
    obtain ⟨h1, h2⟩ := h
    have g1 : decide (a < 1) = false := decide_eq_false (by omega)
    have g2 : decide (8 < a) = false := decide_eq_false (by omega)
    go_enter Try.func6, Try.ntmps6
    go_wp2
    go_ret
    exact ⟨ret_n HF.out.symm, d.out⟩
  · have HF := Lib.hid (boundN_no h)
    by_cases h1 : a < 1
    · have g1 : decide (a < 1) = true := decide_eq_true h1
      clear h h1
      go_enter Try.func6, Try.ntmps6
      go_wp2
      go_ret
      exact ⟨ret_n HF.out.symm, d.out⟩
    · have g1 : decide (a < 1) = false := decide_eq_false h1
      have g2 : decide (8 < a) = true := decide_eq_true (by omega)
      clear h h1
      go_enter Try.func6, Try.ntmps6
      go_wp2
      go_ret
      exact ⟨ret_n HF.out.symm, d.out⟩
set_option maxHeartbeats 8000000 in
set_option maxRecDepth 100000 in
theorem specWorstStep (v : Value) (l : List ChargeD) (w : World) (h : SlR tCharge w v l) (hs : zL tCharge l ≤ 1048576) :
    Calls Try.prog 8 #[v] w (fun e w' => e = .returned (.int .i64 (worstL l)) ∧ Below w.heap.size w w') := by
  have hlen := zL_len hs
  have HS := Lib.hid hs
  have H := Lib.hid h
  obtain ⟨a, cap, rfl⟩ := slR_len h
  clear h hs
  go_enter Try.func8, Try.ntmps8
  go_wp2
  go_loopw [3, 4] (fun n i wr => ∃ (k : Nat) (s : Int), k ≤ l.length ∧ i = .int .i64 k ∧ n = .int .i64 s ∧ Hid (s = worstTo l k) ∧ Below w.heap.size w wr) (fun _ i _ => l.length - (intOf i).toNat)
  case atStart => exact ⟨0, 0, Nat.zero_le _, rfl, rfl, Lib.hid rfl, Below.refl _ _⟩
  case round =>
    obtain ⟨k, s, hk, rfl, rfl, hsum, c⟩ := hrel
    have cw := Lib.hid c
    by_cases hlt : k < l.length
    · have i1 : (0 : Int) ≤ (k : Int) := by omega
      have i2 : (k : Int) < (l.length : Int) := by omega
      have hz := zL_at HS.out hlt
      change tCharge.sz (l.getD k x0D) ≤ 1048576 at hz
      have HN : Hid (max s (workX (l.getD k x0D)) = worstTo l (k + 1)) := Lib.hid (by rw [worstTo_succ, hsum.out])
      obtain ⟨b, off, cap', p2, c2, p3, c3, p4, c4, hv, hbl, e0, e1, e2, e3, e4, s2, s3, s4⟩ := chg_at (slR_below tCharge_law H.out c) hlt
      simp only [Value.slice.injEq] at hv
      obtain ⟨rfl, _, rfl⟩ := hv
      have HBL := Lib.hid (show b < wr.heap.size from hbl)
      generalize l.getD k x0D = x at *
      obtain ⟨sg, ba, x2, x3, x4⟩ := x
      rw [tCharge_sz] at hz
      dsimp only at *
      clear hbl
      have HC := Lib.hid (specWorkDone sg ba (.slice p2 x2.length c2) (.slice p3 x3.length c3) (.slice p4 x4.length c4) x2 x3 x4 wr s2 s3 s4 (zL_len (show zL tInt x2 ≤ 1048576 by omega)) (zL_len (show zL tInt x3 ≤ 1048576 by omega)) (zL_len (show zL tInt x4 ≤ 1048576 by omega)))
      clear hsum c s2 s3 s4 hz
      generalize workX (sg, ba, x2, x3, x4) = y at *
      go_wp2_with fail
      refine HC.out.mono ?_
      rintro e w2 ⟨rfl, c2⟩
      have cw2 := Lib.hid (cw.out.trans (c2.mono cw.out.size))
      clear c2 HC e0 e1 e2 e3 e4
      go_wp2
      go_roundw
      case rel => exact ⟨k + 1, max s y, by omega, by go_num, rfl, HN, cw2.out⟩
      case measure => simp [intOf]; omega
    · obtain rfl : k = l.length := by omega
      have HT : Hid (s = worstL l) := Lib.hid hsum.out
      clear hsum c
      go_wp2
      go_ret
      exact ⟨ret_n HT.out, cw.out⟩
set_option maxHeartbeats 8000000 in
set_option maxRecDepth 100000 in
theorem implWorstStep (v : Value) (l : List ChargeD) (w : World) (h : SlR tCharge w v l) (hs : zL tCharge l ≤ 1048576) :
    Calls Try.prog 10 #[v] w (fun e w' => e = .returned (.int .i64 (worstL l)) ∧ Below w.heap.size w w') := by
  have hlen := zL_len hs
  have HS := Lib.hid hs
  have H := Lib.hid h
  obtain ⟨a, cap, rfl⟩ := slR_len h
  clear h hs
  go_enter Try.func10, Try.ntmps10
  go_wp2
  go_loopw [3, 8] (fun n i wr => ∃ (k : Nat) (s : Int), k ≤ l.length ∧ i = .int .i64 k ∧ n = .int .i64 s ∧ Hid (s = worstTo l k) ∧ Below w.heap.size w wr) (fun _ i _ => l.length - (intOf i).toNat)
  case atStart => exact ⟨0, 0, Nat.zero_le _, rfl, rfl, Lib.hid rfl, Below.refl _ _⟩
  case round =>
    obtain ⟨k, s, hk, rfl, rfl, hsum, c⟩ := hrel
    have cw := Lib.hid c
    by_cases hlt : k < l.length
    · have i1 : (0 : Int) ≤ (k : Int) := by omega
      have i2 : (k : Int) < (l.length : Int) := by omega
      have hz := zL_at HS.out hlt
      change tCharge.sz (l.getD k x0D) ≤ 1048576 at hz
      have HN : Hid (max s (workX (l.getD k x0D)) = worstTo l (k + 1)) := Lib.hid (by rw [worstTo_succ, hsum.out])
      obtain ⟨b, off, cap', p2, c2, p3, c3, p4, c4, hv, hbl, e0, e1, e2, e3, e4, s2, s3, s4⟩ := chg_at (slR_below tCharge_law H.out c) hlt
      simp only [Value.slice.injEq] at hv
      obtain ⟨rfl, _, rfl⟩ := hv
      have HBL := Lib.hid (show b < wr.heap.size from hbl)
      generalize l.getD k x0D = x at *
      obtain ⟨sg, ba, x2, x3, x4⟩ := x
      rw [tCharge_sz] at hz
      dsimp only at *
      clear hbl
      have hal : Below wr.heap.size wr (wr.alloc (.cells #[.int .i64 sg, .int .i64 ba, .slice p2 x2.length c2, .slice p3 x3.length c3, .slice p4 x4.length c4] 37)) := (Below.refl _ _).alloc (Nat.le_refl _) _
      have HC0 := implWorkDone sg ba (.slice p2 x2.length c2) (.slice p3 x3.length c3) (.slice p4 x4.length c4) x2 x3 x4 _ (slR_below tInt_law s2 hal) (slR_below tInt_law s3 hal) (slR_below tInt_law s4 hal) (by omega) (by omega) (by omega)
      have HC := Lib.hid (HC0.mono (fun e w' hh => (⟨hh.1, hal.trans (hh.2.mono hal.size)⟩ : e = .returned (.int .i64 (workX (sg, ba, x2, x3, x4))) ∧ Below wr.heap.size wr w')))
      clear HC0 hal
      clear hsum c s2 s3 s4 hz
      generalize workX (sg, ba, x2, x3, x4) = y at *
      go_wp2_with fail
      refine HC.out.mono ?_
      rintro e w2 ⟨rfl, c2⟩
      have cw2 := Lib.hid (cw.out.trans (c2.mono cw.out.size))
      clear c2 HC e0 e1 e2 e3 e4
      go_wp2
      go_roundw
      case rel => exact ⟨k + 1, max s y, by omega, by go_num, rfl, HN, cw2.out⟩
      case measure => simp [intOf]; omega
    · obtain rfl : k = l.length := by omega
      have HT : Hid (s = worstL l) := Lib.hid hsum.out
      clear hsum c
      go_wp2
      go_ret
      exact ⟨ret_n HT.out, cw.out⟩
end Go.Proofs.Ytjeaimdnddelpaa
namespace Go.Proofs.Ytjeaimdnddelpaa
open Go.RowKit
set_option linter.unusedVariables false
set_option linter.unusedSimpArgs false
set_option maxHeartbeats 32000000 in
set_option maxRecDepth 100000 in
theorem law_fnExactStepBound (n0 : Int) (w0 : (Lit.int .i64 n0).wf = true) (r0 : Int) (w : World)   
    (hspec : ∀ (w : World), 0 ≤ 1048576 → Calls Try.prog 5 #[.int .i64 n0] w (fun e w' => e = .returned (.int .i64 r0) ∧ Below w.heap.size w w'))
    (himpl : ∀ (w : World), 0 ≤ 1048576 → Calls Try.prog 6 #[.int .i64 n0] w (fun e w' => e = .returned (.int .i64 r0) ∧ Below w.heap.size w w')) :
    Calls Try.prog 3 #[.int .i64 n0] w fun e w' => e = .returned (.bool true) ∧ Below w.heap.size w w' := by
  have HSP := Lib.hid hspec
  have HIM := Lib.hid himpl
  clear hspec himpl
  have HT : Hid (0 ≤ 1048576) := Lib.hid (by omega)
  have e0 : (r0 != r0) = false := by simp
  go_enter Try.func3, Try.ntmps3
  go_wp2_with fail
  have d := Lib.hid (Below.refl w.heap.size w)
  refine (HSP.out  w  HT.out ).mono ?_
  rintro e v1 ⟨rfl, c1⟩
  replace d := Lib.hid (d.out.trans (c1.mono d.out.size))
  have Z_v1 := Lib.hid (show w.heap.size ≤ v1.heap.size from c1.size)
  clear c1
  go_wp2_with fail
  refine (HIM.out  v1  HT.out ).mono ?_
  rintro e v2 ⟨rfl, c2⟩
  replace d := Lib.hid (d.out.trans (c2.mono d.out.size))
  have Z_v2 := Lib.hid (show v1.heap.size ≤ v2.heap.size from c2.size)
  clear c2
  go_wp2
  go_ret
  exact ⟨rfl, d.out⟩
end Go.Proofs.Ytjeaimdnddelpaa
namespace Go.Proofs.Ytjeaimdnddelpaa
open Go.ChangeShapes Go.WideShapes Go.ChangeAt Go.WideMaps Go.WideElems Go.RowKit
set_option linter.unusedVariables false
theorem laidOutP : laidOutB Try.prog = true := by kernel_rfl
end Go.Proofs.Ytjeaimdnddelpaa
namespace Go.Proofs.Ytjeaimdnddelpaa
open Go.ChangeShapes Go.WideShapes Go.ChangeAt Go.WideMaps Go.WideElems Go.RowKit
set_option linter.unusedVariables false
/-- Cells that the statement reads as a value of the type t are a datum of the kind T. -/
def Opn {α : Type} (T : Ty α) (t : TypeId) : Prop := ∀ {H : Type} {enc : TypeId × Value → H} {W : World} {held : Bool} {fuel : Nat} {cs : List Value} {x : DataW H × List MemPlace}, DataW.trod enc Try.prog W 0 (fun _ => true) held fuel t cs = some x → ∃ d, T.R W cs d ∧ T.ok d
theorem opn_int : Opn tInt 3 := by
  intro H enc W held fuel cs x h
  obtain ⟨a, e, _, _⟩ := DataW.trod_int Try.underlying3 h
  exact ⟨a, e, trivial⟩
theorem opn_cast {α : Type} {T : Ty α} {t : TypeId} (O : Opn T t) {H : Type} {enc : TypeId × Value → H} {W : World} {held : Bool} {fuel : Nat} {cs : List Value} {o k : Nat} {x : Option (DataW H × List MemPlace)} (hx : x.isSome) (h : DataW.trod enc Try.prog W 0 (fun _ => true) held fuel t ((cs.drop o).take k) = x) :
    ∃ d, T.R W ((cs.drop o).take k) d ∧ T.ok d := by
  cases x with
  | none => cases hx
  | some y => exact O h
set_option maxRecDepth 100000 in
theorem opn_slice {α : Type} {T : Ty α} (A : T.Law) {e t : TypeId} (e' : TypeId) (O : Opn T e) (hu : Try.prog.underlying t = some (.slice e)) (hC : Try.prog.cellsOf e = T.n) : Opn (tSl e' T) t := by
  intro H enc W held fuel cs x hf
  rcases Go.Deep.open_slice hu hf with ⟨rfl, _⟩ | ⟨a', len', cap', m, n, D, Pl, rfl, _, hl, hm, hmm, _, hx⟩
  · exact ⟨[], ⟨_, rfl, Or.inl ⟨rfl, none, 0, rfl⟩⟩, by simp, fun j hj => by simp at hj⟩
  · rw [if_pos rfl] at hmm
    subst hmm
    unfold maxLen at hm
    rw [hC] at hx
    have hpos := A.pos
    haveI : Inhabited α := ⟨T.d⟩
    obtain ⟨f, hf'⟩ := Go.Deep.choose_lt (α := α × List Value) (n := len') (p := fun i q => (∀ j, j < T.n → W.cell? ((a'.add (i * T.n)).add j) = q.2[j]?) ∧ T.R W q.2 q.1 ∧ T.ok q.1) (fun i hi => by
      obtain ⟨cs', h1, h2⟩ := hx i (by omega)
      obtain ⟨_, hlen, hc⟩ := World.cells?_some h1
      obtain ⟨d, hd, ho⟩ := O h2
      exact ⟨(d, cs'), hc, hd, ho⟩)
    have hat : ∀ j, j < len' → ((List.range len').map fun i => (f i).1).getD j T.d = (f j).1 := fun j hj => by simp [List.getD, hj]
    have hlen : ((List.range len').map fun i => (f i).1).length = len' := by simp
    refine ⟨(List.range len').map fun i => (f i).1, ⟨_, rfl, ?_⟩, by rw [hlen]; omega, fun j hj => by rw [hlen] at hj; rw [hat j hj]; exact (hf' j hj).2.2⟩
    by_cases h0 : len' = 0
    · subst h0
      exact Or.inl ⟨rfl, some a', _, rfl⟩
    · have h1 := (hf' 0 (by omega)).1 0 hpos
      have hcl : 0 < (f 0).2.length := by rw [A.len (hf' 0 (by omega)).2.1]; exact hpos
      rw [List.getElem?_eq_getElem hcl] at h1
      obtain ⟨b, off, spot⟩ := a'
      have hspot : spot = none := by simpa [Addr.add] using World.cell?_spot h1
      subst hspot
      refine Or.inr ⟨b, off, _, fun i => (f i).2, by rw [hlen], by rw [hlen]; exact hl, ?_, ?_⟩
      · have := World.block_lt_of_cell? W _ h1
        simpa [Addr.add] using this
      · intro j hj
        rw [hlen] at hj
        obtain ⟨g1, g2, _⟩ := hf' j hj
        rw [hat j hj]
        refine ⟨fun i hi => ?_, g2⟩
        have := g1 i hi
        rw [Go.WideShapes.add_plain, Go.WideShapes.add_plain] at this
        exact this
theorem opn_ints (e' : TypeId) : Opn (tSl e' tInt) 33 := opn_slice tInt_law e' opn_int Try.underlying33 (by kernel_rfl)
set_option maxRecDepth 100000 in
/-- A slice as an argument. -/
theorem slA_open {α : Type} {T : Ty α} {e e' t : TypeId} (O : Opn (tSl e' T) t) (hu : Try.prog.underlying t = some (.slice e)) {H : Type} {enc : TypeId × Value → H} {W : World} {r : Reach} {b0 : Nat} {v : Value} {d : DataW H} {p : List MemPlace}
    (hval : Value.okWide Try.prog W r b0 t v) (h : DataW.Trod enc Try.prog W 0 (fun _ => true) true t v d p) : ∃ xs, SlR T W v xs ∧ (tSl e' T).ok xs := by
  obtain ⟨a, len, cap, rfl⟩ := okWide_slice hu hval
  obtain ⟨fuel, hf⟩ := h
  obtain ⟨xs, ⟨v, e, h⟩, ho⟩ := O hf
  simp [Value.cells] at e
  subst e
  exact ⟨xs, h, ho⟩
end Go.Proofs.Ytjeaimdnddelpaa
namespace Go.Proofs.Ytjeaimdnddelpaa
open Go.RowKit
set_option linter.unusedVariables false
set_option linter.unusedSimpArgs false
set_option maxHeartbeats 32000000 in
set_option maxRecDepth 100000 in
theorem law_fnExactWorstStep (v0_0 : Value) (x0_0 : List (Int × Int × List Int × List Int × List Int)) (r0 : Int) (w : World) (h0_0 : SlR tCharge w v0_0 x0_0) (o0_0 : tChargeS.ok x0_0) 
    (hspec : ∀ (v0_0 : Value) (w : World), SlR tCharge w v0_0 x0_0 → zL tCharge x0_0 ≤ 1048576 → Calls Try.prog 8 #[v0_0] w (fun e w' => e = .returned (.int .i64 r0) ∧ Below w.heap.size w w'))
    (himpl : ∀ (v0_0 : Value) (w : World), SlR tCharge w v0_0 x0_0 → zL tCharge x0_0 ≤ 1048576 → Calls Try.prog 10 #[v0_0] w (fun e w' => e = .returned (.int .i64 r0) ∧ Below w.heap.size w w')) :
    Calls Try.prog 4 #[v0_0] w fun e w' => e = .returned (.bool true) ∧ Below w.heap.size w w' := by
  obtain ⟨c0_0, k0_0, rfl⟩ := slR_len h0_0
  have A0_0 := Lib.hid h0_0
  have O0_0 := Lib.hid o0_0
  clear h0_0 o0_0
  have HSP := Lib.hid hspec
  have HIM := Lib.hid himpl
  clear hspec himpl
  by_cases c0 : ((zL tCharge x0_0 : Nat) : Int) ≤ (1048576 : Int)
  ·
    have HZ0 : Hid (((zL tCharge x0_0 : Nat) : Int) ≤ (1048576 : Int)) := Lib.hid c0
    have HK0 : Hid ((1048576 : Int) ≤ 1048576) := Lib.hid (by omega)
    have hn0 : ¬ (1048576 : Int) - ((zL tCharge x0_0 : Nat) : Int) < 0 := by omega
    have HT : Hid (zL tCharge x0_0 ≤ 1048576) := Lib.hid (by omega)
    have S0_0 : Hid (zL tCharge x0_0 ≤ 1048576) := Lib.hid (by omega)
    have N0_0 := ndL_le tCharge_law (by decide) x0_0
    clear N0_0
    have e0 : (r0 != r0) = false := by simp
    clear c0
    go_enter Try.func4, Try.ntmps4
    go_wp2_with fail
    have d := Lib.hid (Below.refl w.heap.size w)
    refine (szChargeS_Y (.slice c0_0 x0_0.length k0_0) x0_0 ((1048576 : Int)) w (slR_below tCharge_law A0_0.out d.out) HZ0.out HK0.out).mono ?_
    rintro e v1 ⟨rfl, c1⟩
    replace d := Lib.hid (d.out.trans (c1.mono d.out.size))
    have Z_v1 := Lib.hid (show w.heap.size ≤ v1.heap.size from c1.size)
    clear c1
    go_wp2_with fail
    refine (toChargeS_S (.slice c0_0 x0_0.length k0_0) x0_0 v1 (slR_below tCharge_law A0_0.out d.out) S0_0.out).mono ?_
    rintro e v2 ⟨y, rfl, o, c2⟩
    replace d := Lib.hid (d.out.trans (c2.mono d.out.size))
    have Z_v2 := Lib.hid (show v1.heap.size ≤ v2.heap.size from c2.size)
    clear c2
    obtain ⟨ya2, yc2, rfl⟩ := slO_len o
    have P2 := Lib.hid (slO_lt tCharge_law o)
    have Q2 := Lib.hid (fun b (h : since v1 b ∧ b < v2.heap.size) => (show v1.heap.size ≤ b ∧ b < v2.heap.size from h))
    clear o
    go_wp2_with fail
    refine (HSP.out (.slice ya2 x0_0.length yc2) v2 (slO_reads tCharge_law P2.out) HT.out ).mono ?_
    rintro e v3 ⟨rfl, c3⟩
    replace P2 := Lib.hid (slO_fresh tCharge_law P2.out c3)
    replace d := Lib.hid (d.out.trans (c3.mono d.out.size))
    have Z_v3 := Lib.hid (show v2.heap.size ≤ v3.heap.size from c3.size)
    clear c3
    go_wp2_with fail
    refine (toChargeS_S (.slice c0_0 x0_0.length k0_0) x0_0 v3 (slR_below tCharge_law A0_0.out d.out) S0_0.out).mono ?_
    rintro e v4 ⟨y, rfl, o, c4⟩
    replace P2 := Lib.hid (slO_fresh tCharge_law P2.out c4)
    replace d := Lib.hid (d.out.trans (c4.mono d.out.size))
    have Z_v4 := Lib.hid (show v3.heap.size ≤ v4.heap.size from c4.size)
    clear c4
    obtain ⟨ya4, yc4, rfl⟩ := slO_len o
    have P4 := Lib.hid (slO_lt tCharge_law o)
    have Q4 := Lib.hid (fun b (h : since v3 b ∧ b < v4.heap.size) => (show v3.heap.size ≤ b ∧ b < v4.heap.size from h))
    clear o
    go_wp2_with fail
    refine (HIM.out (.slice ya4 x0_0.length yc4) v4 (slO_reads tCharge_law P4.out) HT.out ).mono ?_
    rintro e v5 ⟨rfl, c5⟩
    replace P2 := Lib.hid (slO_fresh tCharge_law P2.out c5)
    replace P4 := Lib.hid (slO_fresh tCharge_law P4.out c5)
    replace d := Lib.hid (d.out.trans (c5.mono d.out.size))
    have Z_v5 := Lib.hid (show v4.heap.size ≤ v5.heap.size from c5.size)
    clear c5
    go_wp2_with fail
    refine (toChargeS_S (.slice c0_0 x0_0.length k0_0) x0_0 v5 (slR_below tCharge_law A0_0.out d.out) S0_0.out).mono ?_
    rintro e v6 ⟨y, rfl, o, c6⟩
    replace P2 := Lib.hid (slO_fresh tCharge_law P2.out c6)
    replace P4 := Lib.hid (slO_fresh tCharge_law P4.out c6)
    replace d := Lib.hid (d.out.trans (c6.mono d.out.size))
    have Z_v6 := Lib.hid (show v5.heap.size ≤ v6.heap.size from c6.size)
    clear c6
    obtain ⟨ya6, yc6, rfl⟩ := slO_len o
    have P6 := Lib.hid (slO_lt tCharge_law o)
    have Q6 := Lib.hid (fun b (h : since v5 b ∧ b < v6.heap.size) => (show v5.heap.size ≤ b ∧ b < v6.heap.size from h))
    clear o
    go_wp2_with fail
    refine (eqChargeS_S (.slice ya4 x0_0.length yc4) (.slice ya6 x0_0.length yc6) x0_0 v6 (slO_reads tCharge_law P4.out) (slO_reads tCharge_law P6.out) S0_0.out).mono ?_
    rintro e v7 ⟨rfl, c7⟩
    replace P2 := Lib.hid (slO_fresh tCharge_law P2.out c7)
    replace P4 := Lib.hid (slO_fresh tCharge_law P4.out c7)
    replace P6 := Lib.hid (slO_fresh tCharge_law P6.out c7)
    replace d := Lib.hid (d.out.trans (c7.mono d.out.size))
    have Z_v7 := Lib.hid (show v6.heap.size ≤ v7.heap.size from c7.size)
    clear c7
    clear P6
    go_wp2
    go_ret
    exact ⟨rfl, d.out⟩
  ·
    have HZ0 : Hid ((1048576 : Int) < ((zL tCharge x0_0 : Nat) : Int)) := Lib.hid (by omega)
    have HP0 : Hid (0 ≤ (1048576 : Int)) := Lib.hid (by omega)
    have HK0 : Hid ((1048576 : Int) ≤ 1048576) := Lib.hid (by omega)
    clear c0
    go_enter Try.func4, Try.ntmps4
    go_wp2_with fail
    have d := Lib.hid (Below.refl w.heap.size w)
    refine (szChargeS_N (.slice c0_0 x0_0.length k0_0) x0_0 ((1048576 : Int)) w (slR_below tCharge_law A0_0.out d.out) HZ0.out HK0.out HP0.out O0_0.out).mono ?_
    rintro e v1 ⟨rfl, c1⟩
    replace d := Lib.hid (d.out.trans (c1.mono d.out.size))
    have Z_v1 := Lib.hid (show w.heap.size ≤ v1.heap.size from c1.size)
    clear c1
    go_wp2
    go_ret
    exact ⟨rfl, d.out⟩
end Go.Proofs.Ytjeaimdnddelpaa
namespace Go.Proofs.Ytjeaimdnddelpaa
open Go.ChangeShapes Go.WideShapes Go.ChangeAt Go.WideMaps Go.WideElems Go.RowKit
set_option linter.unusedVariables false
set_option maxRecDepth 100000 in
theorem opn_Charge : Opn tCharge 35 := by
  intro H enc W held fuel cs x h
  obtain ⟨xs, n, _, _, hl, hlen, hf⟩ := DataW.trod_struct Try.underlying35 h
  have hl2 : cs.length = 5 := hl.trans (by kernel_rfl)
  have hn : xs.length = 5 := hlen
  have f0 : DataW.trod enc Try.prog W 0 (fun _ => true) held n 3 ((cs.drop 0).take (Try.prog.cellsOf 3)) = xs[0]? := hf 0 _ rfl
  rw [show Try.prog.cellsOf 3 = 1 from by kernel_rfl] at f0
  obtain ⟨d0, r0, o0⟩ := opn_cast (opn_int) (by rw [List.getElem?_eq_getElem (by omega)]; rfl) f0
  have f1 : DataW.trod enc Try.prog W 0 (fun _ => true) held n 3 ((cs.drop 1).take (Try.prog.cellsOf 3)) = xs[1]? := hf 1 _ rfl
  rw [show Try.prog.cellsOf 3 = 1 from by kernel_rfl] at f1
  obtain ⟨d1, r1, o1⟩ := opn_cast (opn_int) (by rw [List.getElem?_eq_getElem (by omega)]; rfl) f1
  have f2 : DataW.trod enc Try.prog W 0 (fun _ => true) held n 33 ((cs.drop 2).take (Try.prog.cellsOf 33)) = xs[2]? := hf 2 _ rfl
  rw [show Try.prog.cellsOf 33 = 1 from by kernel_rfl] at f2
  obtain ⟨d2, r2, o2⟩ := opn_cast (opn_ints 3) (by rw [List.getElem?_eq_getElem (by omega)]; rfl) f2
  have f3 : DataW.trod enc Try.prog W 0 (fun _ => true) held n 33 ((cs.drop 3).take (Try.prog.cellsOf 33)) = xs[3]? := hf 3 _ rfl
  rw [show Try.prog.cellsOf 33 = 1 from by kernel_rfl] at f3
  obtain ⟨d3, r3, o3⟩ := opn_cast (opn_ints 3) (by rw [List.getElem?_eq_getElem (by omega)]; rfl) f3
  have f4 : DataW.trod enc Try.prog W 0 (fun _ => true) held n 33 ((cs.drop 4).take (Try.prog.cellsOf 33)) = xs[4]? := hf 4 _ rfl
  rw [show Try.prog.cellsOf 33 = 1 from by kernel_rfl] at f4
  obtain ⟨d4, r4, o4⟩ := opn_cast (opn_ints 3) (by rw [List.getElem?_eq_getElem (by omega)]; rfl) f4
  exact ⟨(d0, d1, d2, d3, d4), ⟨(cs.drop 0).take 1, cs.drop 1, (List.take_append_drop 1 cs).symm, r0, ⟨(cs.drop 1).take 1, cs.drop 2, (List.take_append_drop 1 (cs.drop 1)).symm.trans (by simp), r1, ⟨(cs.drop 2).take 1, cs.drop 3, (List.take_append_drop 1 (cs.drop 2)).symm.trans (by simp), r2, ⟨(cs.drop 3).take 1, cs.drop 4, (List.take_append_drop 1 (cs.drop 3)).symm.trans (by simp), r3, (by have e := List.take_of_length_le (l := cs.drop 4) (i := 1) (by rw [List.length_drop]; omega); rw [e] at r4; exact r4)⟩⟩⟩⟩, ⟨o0, ⟨o1, ⟨o2, ⟨o3, o4⟩⟩⟩⟩⟩
end Go.Proofs.Ytjeaimdnddelpaa
namespace Go.Proofs.Ytjeaimdnddelpaa
open Go.ChangeShapes Go.WideShapes Go.ChangeAt Go.WideMaps Go.WideElems Go.RowKit
set_option linter.unusedVariables false
theorem recT_ChargeS : Try.prog.readableRec 24 = true := by kernel_rfl
theorem rowT_ChargeS : 24 < Try.prog.types.size := of_decide_eq_true (by kernel_rfl)
theorem opn_ChargeS : Opn tChargeS 24 := opn_slice tCharge_law _ opn_Charge Try.underlying24 (by kernel_rfl)
set_option maxRecDepth 100000 in
theorem shut_ChargeS {H : Type} {enc : TypeId × Value → H} {W W' : World} {v : Value} {d : DataW H} {ps : List MemPlace} (h : DataW.Trod enc Try.prog W 0 (fun _ => true) true 24 v d ps) (hb : Below W.heap.size W W') (hlt : ∀ x ∈ ps, x.block < W.heap.size) :
    DataW.Trod enc Try.prog W' 0 (fun b => decide (b < W.heap.size)) true 24 v d ps := Below.trod laidOutP recT_ChargeS rowT_ChargeS h hb hlt
end Go.Proofs.Ytjeaimdnddelpaa
