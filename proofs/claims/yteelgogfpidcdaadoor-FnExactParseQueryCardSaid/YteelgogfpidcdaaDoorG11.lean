/-
  Texts of the proof, merged: CondHeld, QueryParLaw, TabZ, AndShaped.
-/
import Derived.Test.YteelgogfpidcdaaDoorG10
import Derived.Test.YteelgogfpidcdaaDoorRows
import Derived.WalkKit
import Derived.Below
import Derived.Lib.Hide
import Derived.Lib.AppendIntMem
import Derived.Lib.TrailingZeros
import Derived.Shelf.Spec.TrailingZeros
import Derived.Handed
import Derived.HandedShaped
import Derived.Shelf.Vars
namespace Go.Proofs.YteelgogfpidcdaaDoor
open Go.RowKit
set_option linter.unusedVariables false
set_option linter.unusedSimpArgs false
set_option maxHeartbeats 4000000 in
set_option maxRecDepth 100000 in
theorem heldCondS_any (v : Value) (n : Nat) (k : Int) (w : World) (h : CondsR w v (marksC k n)) (hn : n ≤ 1048576) (k0 : 0 ≤ k) (k1 : k ≤ 1073741824) :
    Calls Tryd.prog 70 #[v, .int .i64 k] w fun e w' => e = .returned (.int .i64 (k + 3 * (n : Int))) ∧ w = w' := by
  have H := Lib.hid h
  obtain ⟨a, cap, rfl⟩ := condsR_len h
  clear h
  have hl := Lib.hid (marksC_length k n)
  rw [hl.out]
  go_enter Tryd.func70, Tryd.ntmps70
  go_wp2
  go_loop [1, 5] (fun m i => ∃ j : Nat, j ≤ n ∧ i = .int .i64 j ∧ m = .int .i64 (k + 3 * (j : Int))) (fun _ i => n - (intOf i).toNat)
  case atStart => exact ⟨0, Nat.zero_le _, rfl, by simp⟩
  case round =>
    obtain ⟨j, hj, rfl, rfl⟩ := hrel
    by_cases hlt : j < n
    · obtain ⟨b, off, cap', hv, hbl, hc1, hc2, hc3⟩ := condsR_at H.out (k := j) (by rw [hl.out]; omega)
      rw [hl.out] at hv
      simp only [Value.slice.injEq] at hv
      obtain ⟨rfl, _, rfl⟩ := hv
      rw [marksC_at k n j hlt] at hc1 hc2 hc3
      unfold mCond at hc1 hc2 hc3
      simp only at hc1 hc2 hc3
      have i1 : (0 : Int) ≤ (j : Int) := by omega
      have i2 : (j : Int) < (n : Int) := by omega
      go_wp2
      go_round
      case rel => exact ⟨j + 1, by omega, by go_num, by simp; omega⟩
      case measure => simp [intOf]; omega
    · obtain rfl : j = n := by omega
      go_wp2
      go_ret
      exact ⟨rfl, rfl⟩
set_option maxHeartbeats 4000000 in
set_option maxRecDepth 100000 in
theorem heldQuery_any (id tn : Int) (cv ov : Value) (n m : Nat) (k : Int) (w : World) (h : CondsR w cv (marksC k n)) (g : Ints w ov (marks (k + 3 * (n : Int)) m)) (hn : n ≤ 1048576) (hm : m ≤ 1048576) (k0 : 0 ≤ k) (k1 : k ≤ 1048576) :
    Calls Tryd.prog 28 #[qV id tn cv ov, .int .i64 k] w fun e w' => e = .returned (.int .i64 (k + 3 * (n : Int) + (m : Int))) ∧ Below w.heap.size w w' := by
  obtain ⟨ca, ccap, hv⟩ := condsR_len h
  rw [marksC_length] at hv
  subst hv
  obtain ⟨oa, ocap, hu⟩ := ints_len g
  rw [marks_length] at hu
  subst hu
  have hb : Below w.heap.size w (w.alloc (.cells #[.int .i64 id, .int .i64 tn, .slice ca n ccap, .slice oa m ocap] 46)) := (Below.refl _ w).alloc (Nat.le_refl _) _
  have HC := Lib.hid (heldCondS_any (.slice ca n ccap) n k _ (condsR_below h hb) hn k0 (by omega))
  have HO := Lib.hid (heldIntS_any (.slice oa m ocap) m (k + 3 * (n : Int)) _ (ints_below g hb) hm (by omega) (by omega))
  have HB := Lib.hid hb
  have hneg : ¬ k + 3 * (n : Int) < 0 := by omega
  have hneg2 : ¬ k + 3 * (n : Int) + (m : Int) < 0 := by omega
  clear h g hb hn hm k1 k0
  go_enter Tryd.func28, Tryd.ntmps28
  go_wp2_with fail
  refine HC.out.mono ?_
  rintro e w' ⟨rfl, rfl⟩
  go_wp2_with fail
  refine HO.out.mono ?_
  rintro e w' ⟨rfl, rfl⟩
  go_wp2
  go_ret
  exact ⟨rfl, HB.out⟩
end Go.Proofs.YteelgogfpidcdaaDoor
namespace Go.Proofs.YteelgogfpidcdaaDoor
open Go.RowKit
set_option linter.unusedVariables false
set_option linter.unusedSimpArgs false
theorem strB_text (s : ByteArray) : ∃ l, s = strB l := ⟨s.data.toList, by cases s; simp [strB]⟩
theorem parQ_lens {l : List UInt8} (h : l.length ≤ 1048576) : (parQ l).1.2.2.1.length ≤ 1048576 ∧ (parQ l).1.2.2.2.length ≤ 1048576 := by
  cases hq : (parQ l).2 with
  | false =>
    have : parQ l = (q0D, false) := by
      unfold parQ at hq ⊢
      split
      · rfl
      · rename_i g; rw [if_neg g] at hq; exact Bool.noConfusion hq
    rw [this]; simp [q0D]
  | true =>
    have h2 : ¬ (cutL 32 l).length < 4 := fun g => by rw [parQ_no (Or.inl g)] at hq; exact Bool.noConfusion hq
    by_cases he : l = []
    · subst he; simp [cutL, cutGo] at h2
    · obtain ⟨hb, _⟩ := parQ_query he hq
      obtain ⟨_, _, h3, _, h5, _⟩ := query_parts hb
      omega
set_option maxHeartbeats 8000000 in
set_option maxRecDepth 100000 in
theorem law_fnExactParseQuery (s : ByteArray) (hs : s.size ≤ maxLen) (w : World) (htab : Tab w) (hM : TabM w) :
    Calls Tryd.prog 5 #[.string s] w fun e w' => e = .returned (.bool true) ∧ Below w.heap.size w w' := by
  obtain ⟨l, rfl⟩ := strB_text s
  by_cases hl : l.length ≤ 1048576
  · have hsz : ¬ (1048576 : Int) < ((strB l).size : Int) := by rw [strB_size]; omega
    have HS := Lib.hid (fun w => specParseQuery l w hl)
    have HI := Lib.hid (fun w h h' => implParseQuery l w hl h h')
    have HL := Lib.hid (parQ_lens hl)
    have HT := Lib.hid htab
    have HM := Lib.hid hM
    clear hs hl htab hM
    generalize parQ l = p at *
    obtain ⟨⟨id, tn, cs, os⟩, b⟩ := p
    have HN : Hid (cs.length ≤ 1048576) := Lib.hid (by have := HL.out; simp only at this; omega)
    have HO : Hid (os.length ≤ 1048576) := Lib.hid (by have := HL.out; simp only at this; omega)
    generalize strB l = sl at *
    have hbb : (b != b) = false := by simp
    go_enter Tryd.func5, Tryd.ntmps5
    go_wp2_with fail
    refine (HS.out _).mono ?_
    rintro e w1 ⟨rc, ro, rfl, oc1, on1, _, b1⟩
    simp only at oc1 on1 ⊢
    obtain ⟨ra, rcap, rfl⟩ := ownsC_len oc1
    obtain ⟨sa, scap, rfl⟩ := ints_len (ownsN_ints on1)
    go_wp2_with fail
    have hb1 : Below w1.heap.size w1 (w1.alloc (.cells #[.int .i64 id, .int .i64 tn, .slice ra cs.length rcap, .slice sa os.length scap] 46)) := (Below.refl _ w1).alloc (Nat.le_refl _) _
    have g3 := heap_alloc_new w1 (.cells #[.int .i64 id, .int .i64 tn, .slice ra cs.length rcap, .slice sa os.length scap] 46)
    have l3 : w1.heap.size < (w1.alloc (.cells #[.int .i64 id, .int .i64 tn, .slice ra cs.length rcap, .slice sa os.length scap] 46)).heap.size := by simp
    have ic := condsR_below (ownsC_conds oc1) hb1
    have ir := ints_below (ownsN_ints on1) hb1
    have bW := b1.trans (hb1.mono b1.size)
    obtain ⟨W1, hW1⟩ : ∃ W1, w1.alloc (.cells #[.int .i64 id, .int .i64 tn, .slice ra cs.length rcap, .slice sa os.length scap] 46) = W1 := ⟨_, rfl⟩
    rw [hW1] at hb1 g3 l3 ir ic bW ⊢
    clear hW1 hb1 oc1 on1 b1
    have BW := Lib.hid bW
    have IR := Lib.hid ir
    have IC := Lib.hid ic
    have G3 := Lib.hid g3
    have L3 := Lib.hid l3
    clear bW ir ic g3 l3
    refine (HI.out _ (HT.out.on BW.out) (HM.out.on BW.out)).mono ?_
    rintro e w2 ⟨gc, go, rfl, oc2, on2, hap, b2⟩
    simp only at oc2 on2 ⊢
    obtain ⟨ga, gcap, rfl⟩ := ownsC_len oc2
    obtain ⟨ia, icap, rfl⟩ := ints_len (ownsN_ints on2)
    have hgb : ∀ q, (Value.slice ga cs.length gcap).ownBlock = some q → q < w2.heap.size := fun q hq => (oc2.lt q hq).2
    have hib : ∀ q, (Value.slice ia os.length icap).ownBlock = some q → q < w2.heap.size := fun q hq => (on2.lt q hq).2
    have hb5 : Below w2.heap.size w2 (w2.alloc (.cells #[.int .i64 id, .int .i64 tn, .slice ga cs.length gcap, .slice ia os.length icap] 46)) := (Below.refl _ w2).alloc (Nat.le_refl _) _
    have g5 := heap_alloc_new w2 (.cells #[.int .i64 id, .int .i64 tn, .slice ga cs.length gcap, .slice ia os.length icap] 46)
    have l5 : w2.heap.size < (w2.alloc (.cells #[.int .i64 id, .int .i64 tn, .slice ga cs.length gcap, .slice ia os.length icap] 46)).heap.size := by simp
    have c5 := b2.trans (hb5.mono b2.size)
    have g35 := (c5.block w1.heap.size L3.out).trans G3.out
    have oc5 := ownsC_below oc2 hb5
    have on5 := ownsN_below on2 hb5
    have p0 := (cell_of_row (w2.alloc (.cells #[.int .i64 id, .int .i64 tn, .slice ga cs.length gcap, .slice ia os.length icap] 46)) _ 0 _ _ _ g35).trans (show _ = some (Value.int .i64 id) from rfl)
    have p1 := (cell_of_row (w2.alloc (.cells #[.int .i64 id, .int .i64 tn, .slice ga cs.length gcap, .slice ia os.length icap] 46)) _ 1 _ _ _ g35).trans (show _ = some (Value.int .i64 tn) from rfl)
    have p2 := (cell_of_row (w2.alloc (.cells #[.int .i64 id, .int .i64 tn, .slice ga cs.length gcap, .slice ia os.length icap] 46)) _ 2 _ _ _ g35).trans (show _ = some (Value.slice ra cs.length rcap) from rfl)
    have p3 := (cell_of_row (w2.alloc (.cells #[.int .i64 id, .int .i64 tn, .slice ga cs.length gcap, .slice ia os.length icap] 46)) _ 3 _ _ _ g35).trans (show _ = some (Value.slice sa os.length scap) from rfl)
    have HG5 := Lib.hid g5
    have HC5 := Lib.hid c5
    have HO5 := Lib.hid oc5
    have HN5 := Lib.hid on5
    have HL5 := Lib.hid l5
    have HGB := Lib.hid hgb
    have HIB := Lib.hid hib
    have HAP := Lib.hid hap
    clear g5 c5 oc5 on5 l5 hb5 g35 b2 oc2 on2 hgb hib hap
    go_wp2_with fail
    generalize w2.alloc (.cells #[.int .i64 id, .int .i64 tn, .slice ga cs.length gcap, .slice ia os.length icap] 46) = W2 at *
    refine (eqQuery_same id tn _ _ _ _ cs os _ (ownsC_conds HO5.out) (condsR_below IC.out HC5.out) (ownsN_ints HN5.out) (ints_below IR.out HC5.out) HN.out HO.out).mono ?_
    rintro e w3 ⟨rfl, b3⟩
    have c3 := HC5.out.trans (b3.mono HC5.out.size)
    have g53 := (b3.block w2.heap.size HL5.out).trans HG5.out
    have oc3 := ownsC_below HO5.out b3
    have on3 := ownsN_below HN5.out b3
    have z3 := Nat.lt_of_lt_of_le HL5.out b3.size
    clear p0 p1 p2 p3
    have q0 := (cell_of_row w3 _ 0 _ _ _ g53).trans (show _ = some (Value.int .i64 id) from rfl)
    have q1 := (cell_of_row w3 _ 1 _ _ _ g53).trans (show _ = some (Value.int .i64 tn) from rfl)
    have q2 := (cell_of_row w3 _ 2 _ _ _ g53).trans (show _ = some (Value.slice ga cs.length gcap) from rfl)
    have q3 := (cell_of_row w3 _ 3 _ _ _ g53).trans (show _ = some (Value.slice ia os.length icap) from rfl)
    have HG3 := Lib.hid g53
    have HC3 := Lib.hid c3
    have HO3 := Lib.hid oc3
    have HN3 := Lib.hid on3
    have HZ3 := Lib.hid z3
    clear g53 c3 oc3 on3 z3 b3
    go_wp2_with fail
    refine (markQuery_any id tn _ _ cs os W1.heap.size w2.heap.size 1 _ HO3.out HN3.out HAP.out HGB.out HIB.out (Nat.le_of_lt HZ3.out) HN.out HO.out (by omega) (by omega)).mono ?_
    rintro e w4 ⟨rfl, oc4, on4, k4⟩
    have c4 := only_below HC3.out k4 (Nat.le_refl _) HC3.out.size
    have g54 := (k4.block w2.heap.size HZ3.out (Or.inr (Nat.le_refl _))).trans HG3.out
    clear q0 q1 q2 q3
    have q0 := (cell_of_row w4 _ 0 _ _ _ g54).trans (show _ = some (Value.int .i64 id) from rfl)
    have q1 := (cell_of_row w4 _ 1 _ _ _ g54).trans (show _ = some (Value.int .i64 tn) from rfl)
    have q2 := (cell_of_row w4 _ 2 _ _ _ g54).trans (show _ = some (Value.slice ga cs.length gcap) from rfl)
    have q3 := (cell_of_row w4 _ 3 _ _ _ g54).trans (show _ = some (Value.slice ia os.length icap) from rfl)
    have HG4 := Lib.hid g54
    have HC4 := Lib.hid c4
    have HO4 := Lib.hid oc4
    have HN4 := Lib.hid on4
    clear g54 c4 oc4 on4 k4
    go_wp2_with fail
    refine (heldQuery_any id tn _ _ cs.length os.length 1 _ (ownsC_conds HO4.out) (ownsN_ints HN4.out) HN.out HO.out (by omega) (by omega)).mono ?_
    rintro e w5 ⟨rfl, b5⟩
    have c5 := HC4.out.trans (b5.mono HC4.out.size)
    have g55 := (b5.block w2.heap.size (Array.getElem?_eq_some_iff.1 HG4.out).1).trans HG4.out
    have oc5 := ownsC_below HO4.out b5
    have on5 := ownsN_below HN4.out b5
    clear q0 q1 q2 q3
    have HG6 := Lib.hid g55
    have HC6 := Lib.hid c5
    have HO6 := Lib.hid oc5
    have HN6 := Lib.hid on5
    clear g55 c5 oc5 on5 b5
    have hneg : ¬ 1 + 3 * (cs.length : Int) + (os.length : Int) < 0 := by omega
    go_wp2_with fail
    refine (HI.out _ (HT.out.on (BW.out.trans (HC6.out.mono BW.out.size))) (HM.out.on (BW.out.trans (HC6.out.mono BW.out.size)))).mono ?_
    rintro e w6 ⟨hc, ho, rfl, oc6, on6, _, b6⟩
    simp only at oc6 on6 ⊢
    obtain ⟨ha, hcap, rfl⟩ := ownsC_len oc6
    obtain ⟨ja, jcap, rfl⟩ := ints_len (ownsN_ints on6)
    have hb7 : Below w6.heap.size w6 (w6.alloc (.cells #[.int .i64 id, .int .i64 tn, .slice ha cs.length hcap, .slice ja os.length jcap] 46)) := (Below.refl _ w6).alloc (Nat.le_refl _) _
    have c7 := (HC6.out.trans (b6.mono HC6.out.size)).trans (hb7.mono (HC6.out.trans (b6.mono HC6.out.size)).size)
    have b67 := b6.trans (hb7.mono b6.size)
    have g37 := (c7.block w1.heap.size L3.out).trans G3.out
    have g57 := (b67.block w2.heap.size (Array.getElem?_eq_some_iff.1 HG6.out).1).trans HG6.out
    have ch7 := ownsC_below oc6 hb7
    have nh7 := ownsN_below on6 hb7
    have cg7 := ownsC_below HO6.out b67
    have ng7 := ownsN_below HN6.out b67
    have p0 := (cell_of_row (w6.alloc (.cells #[.int .i64 id, .int .i64 tn, .slice ha cs.length hcap, .slice ja os.length jcap] 46)) _ 0 _ _ _ g37).trans (show _ = some (Value.int .i64 id) from rfl)
    have p1 := (cell_of_row (w6.alloc (.cells #[.int .i64 id, .int .i64 tn, .slice ha cs.length hcap, .slice ja os.length jcap] 46)) _ 1 _ _ _ g37).trans (show _ = some (Value.int .i64 tn) from rfl)
    have p2 := (cell_of_row (w6.alloc (.cells #[.int .i64 id, .int .i64 tn, .slice ha cs.length hcap, .slice ja os.length jcap] 46)) _ 2 _ _ _ g37).trans (show _ = some (Value.slice ra cs.length rcap) from rfl)
    have p3 := (cell_of_row (w6.alloc (.cells #[.int .i64 id, .int .i64 tn, .slice ha cs.length hcap, .slice ja os.length jcap] 46)) _ 3 _ _ _ g37).trans (show _ = some (Value.slice sa os.length scap) from rfl)
    have HC7 := Lib.hid c7
    have HG7 := Lib.hid g57
    have HH7 := Lib.hid ch7
    have HK7 := Lib.hid nh7
    have HO7 := Lib.hid cg7
    have HN7 := Lib.hid ng7
    clear c7 b67 g37 g57 ch7 nh7 cg7 ng7 hb7 b6 oc6 on6
    go_wp2_with fail
    generalize w6.alloc (.cells #[.int .i64 id, .int .i64 tn, .slice ha cs.length hcap, .slice ja os.length jcap] 46) = W7 at *
    refine (eqQuery_same id tn _ _ _ _ cs os _ (ownsC_conds HH7.out) (condsR_below IC.out HC7.out) (ownsN_ints HK7.out) (ints_below IR.out HC7.out) HN.out HO.out).mono ?_
    rintro e w8 ⟨rfl, b8⟩
    have c8 := HC7.out.trans (b8.mono HC7.out.size)
    have g58 := (b8.block w2.heap.size (Array.getElem?_eq_some_iff.1 HG7.out).1).trans HG7.out
    have oc8 := ownsC_below HO7.out b8
    have on8 := ownsN_below HN7.out b8
    clear p0 p1 p2 p3
    have q0 := (cell_of_row w8 _ 0 _ _ _ g58).trans (show _ = some (Value.int .i64 id) from rfl)
    have q1 := (cell_of_row w8 _ 1 _ _ _ g58).trans (show _ = some (Value.int .i64 tn) from rfl)
    have q2 := (cell_of_row w8 _ 2 _ _ _ g58).trans (show _ = some (Value.slice ga cs.length gcap) from rfl)
    have q3 := (cell_of_row w8 _ 3 _ _ _ g58).trans (show _ = some (Value.slice ia os.length icap) from rfl)
    have HC8 := Lib.hid c8
    have HO8 := Lib.hid oc8
    have HN8 := Lib.hid on8
    clear c8 g58 oc8 on8 b8
    go_wp2_with fail
    refine (heldQuery_any id tn _ _ cs.length os.length 1 _ (ownsC_conds HO8.out) (ownsN_ints HN8.out) HN.out HO.out (by omega) (by omega)).mono ?_
    rintro e w9 ⟨rfl, b9⟩
    have b10 := BW.out.trans ((HC8.out.trans (b9.mono HC8.out.size)).mono BW.out.size)
    clear b9 q0 q1 q2 q3
    go_wp2
    go_ret
    exact ⟨rfl, b10⟩
  · have hsz : (1048576 : Int) < ((strB l).size : Int) := by rw [strB_size]; omega
    clear hs hl htab
    generalize strB l = sl at *
    go_enter Tryd.func5, Tryd.ntmps5
    go_wp2
    go_ret
    exact ⟨rfl, Below.refl _ _⟩
end Go.Proofs.YteelgogfpidcdaaDoor
namespace Go.Proofs.YteelgogfpidcdaaDoor
open Go.RowKit
set_option linter.unusedVariables false
def tzL : List Int := Lib.deBruijn32tab.map fun n : Nat => (n : Int)
/-- The table of trailing zeros reads as its text lays it. -/
def TabZ (w : World) : Prop := Lib.TabIs Tryd.prog w "math/bits.deBruijn32tab" .u8 tzL
theorem TabZ.on {w w' : World} (h : TabZ w) (hb : Below w.heap.size w w') : TabZ w' := Lib.tabBelow_of_tabIs h w' hb
theorem zcell {w : World} (h : TabZ w) (i : Nat) (hi : i < 32) : w.cell? ⟨0, i, none⟩ = some (.int .u8 ((Lib.deBruijn32tab.getD i 0 : Nat) : Int)) := by
  have := Lib.TabIs.cell h (show Tryd.prog.globalNamed "math/bits.deBruijn32tab" = some 0 by kernel_rfl) i (by simpa [tzL, Lib.deBruijn32tab] using hi)
  rw [this]
  have hl : i < Lib.deBruijn32tab.length := by simpa [Lib.deBruijn32tab] using hi
  simp only [tzL, List.getD, List.getElem?_map, List.getElem?_eq_getElem hl, Option.map_some, Option.getD_some]
theorem tz32_zero (w : World) : Calls Tryd.prog 119 #[.int .u32 0] w fun e w' => e = .returned (.int .i64 32) ∧ w' = w := by
  go_enter Tryd.func119, Tryd.ntmps119
  go_wp2
  go_ret
  exact ⟨rfl, rfl⟩
theorem tz32_at (x k idx : Nat) (w : World) (hx0 : ((x : Int) == 0) = false)
    (key : bits BinOp.and IntKind.u32 (x : Int) (-(x : Int) % 4294967296) * 125613361 % 4294967296 / 134217728 = (idx : Int))
    (hi : idx < 32) (hk : k < 32) (hcell : w.cell? ⟨0, idx, none⟩ = some (.int .u8 k)) :
    Calls Tryd.prog 119 #[.int .u32 x] w fun e w' => e = .returned (.int .i64 k) ∧ w' = w := by
  go_enter Tryd.func119, Tryd.ntmps119
  go_wp2_with (simp only [key])
  go_ret
  exact ⟨rfl, rfl⟩
/-- math/bits.TrailingZeros32, at every x. -/
theorem tz32 (x : Nat) (hx : x < 4294967296) (w : World) (hT : TabZ w) : Calls Tryd.prog 119 #[.int .u32 x] w fun e w' => e = .returned (.int .i64 (Lib.ctz 32 x)) ∧ w' = w := by
  by_cases hx0 : x = 0
  · subst hx0
    exact tz32_zero w
  · obtain ⟨hlow, hk⟩ := Lib.lowest_bit 32 x hx0 hx
    obtain ⟨hi, htab⟩ := Lib.deBruijn32_at _ hk
    have hcell := zcell hT _ hi
    rw [htab] at hcell
    exact tz32_at x _ _ w (by simp; omega) (tz32_key x _ hx hx0 hlow) hi hk hcell
end Go.Proofs.YteelgogfpidcdaaDoor
namespace Go.Proofs.YteelgogfpidcdaaDoor
theorem wrap_laid_shaped {H : Type} {enc : TypeId × Value → H} {a : Assume} {C : Checked} {os : Os} {f : FuncId} {fn : Func} {s : ChangeSpec} {conds : List PathCond} {apart fresh handsOn again : Bool} {X : World → Array Value → Prop}
    (hX : ∀ (w w' : World) (args : Array Value), w.heap = w'.heap → X w args → X w' args)
    (own : ownKnob C.prog.godebug = none) (started : os.Started) (noInit : C.prog.inits.idxOf? f = none) (hfn : C.prog.funcs[f]? = some fn)
    (witness : ∃ (w : World) (tape : Tape) (i : Input), w.os = os ∧ (w.forCall tape i).Shaped C.prog ∧ i.vars = [] ∧ Input.okWide C.prog (w.forCall tape i) .any w.heap.size f i ∧
      ((s.pre enc C.prog fn conds apart (w.forCall tape i).memory i.args ∧ X (w.forCall tape i).memory i.args) ∧ sizedMet enc C.prog fn (OpenSpec.ofChange s) apart (w.forCall tape i).memory i.args) ∧ a.holds C.prog (lone (Frame.enter C.prog f i.args .normal) [] (w.forCall tape i)))
    (walk : ∀ (W : World) (base : Nat) (args : Array Value) (ds gs : List (DataW H)) (before : List MemPlace), W.ShapedOpen C.prog →
      (∀ (j : Nat) t v, fn.params[j]? = some t → args[j]? = some v → Value.okWide C.prog W .any base t v) →
      DataW.Whole enc C.prog fn.params.toList s.vars apart W args.toList ds gs before →
      conds.all (PathCond.test C.prog ⟨fn.params.toList, ds, s.plain.varTypes C.prog, gs⟩) = true →
      (DataW.weightsEach C.prog (fn.params.toList ++ s.plain.varTypes C.prog) (ds ++ gs)).all (· ≤ reachBytes) = true → X W args →
      a.holds C.prog (lone (Frame.enter C.prog f args .normal) [] W) →
      Calls C.prog f args W fun e W' => ∃ v, e = .returned v ∧ s.post enc C.prog fn apart fresh handsOn again W args v W') :
    ReturnsInHanded a C os f .any (fun w args => (s.pre enc C.prog fn conds apart w args ∧ X w args) ∧ sizedMet enc C.prog fn (OpenSpec.ofChange s) apart w args) (s.post enc C.prog fn apart fresh handsOn again) :=
  returnsInHanded_of_calls own started noInit witness fun w tape i _ shape _ hok hpre hh => by
    obtain ⟨_, _, _, fn2, h2, _, _, _, _, hval⟩ := hok
    obtain rfl : fn2 = fn := Option.some.inj (h2.symm.trans hfn)
    obtain ⟨⟨⟨ds, gs, before, whole, hc⟩, hx⟩, sized⟩ := hpre
    refine (walk (w.forCall tape i) w.heap.size i.args ds gs before shape hval (DataW.Whole.of_heap (w' := w.forCall tape i) (by rfl) whole) hc (sized.weights whole) (hX _ _ _ (by rfl) hx) hh).mono fun e W' ⟨v, he, hp⟩ => ?_
    subst he
    exact ChangeSpec.post_blind hp
end Go.Proofs.YteelgogfpidcdaaDoor
