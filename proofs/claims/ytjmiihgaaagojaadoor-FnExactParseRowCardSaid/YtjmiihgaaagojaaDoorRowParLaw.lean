/-
  The walk of the exact law of ParseRow.
-/
import Derived.Test.YtjmiihgaaagojaaDoorRowParS
namespace Go.Proofs.YtjmiihgaaagojaaDoor
open Go.RowKit
set_option linter.unusedVariables false
set_option linter.unusedSimpArgs false
theorem strB_text (s : ByteArray) : ∃ l, s = strB l := ⟨s.data.toList, by cases s; simp [strB]⟩
/-- Marking the values of a row that the call made writes into their block alone. -/
def MarkedRow (w : World) (B : Nat) (v : Value) (n : Nat) (k : Int) (e : Ending) (w' : World) : Prop :=
  e = .returned (.int .i64 (k + (n : Int))) ∧ OwnsN w' B v (marks k n) ∧ Below B w w' ∧ ∀ j, j < w.heap.size → some j ≠ v.ownBlock → w'.heap[j]? = w.heap[j]?
set_option maxHeartbeats 4000000 in
set_option maxRecDepth 100000 in
theorem markRow_any (id : Int) (v : Value) (xs : List Int) (B : Nat) (k : Int) (w : World) (h : OwnsN w B v xs) (hB : B ≤ w.heap.size) (hn : xs.length ≤ 1048576) (k0 : 0 ≤ k) (k1 : k ≤ 1048576) :
    Calls Tryd.prog 12 #[.agg #[.int .i64 id, v], .int .i64 k] w (MarkedRow w B v xs.length k) := by
  obtain ⟨va, vcap, rfl⟩ := ints_len (ownsN_ints h)
  have hb : Below w.heap.size w (w.alloc (.cells #[.int .i64 id, .slice va xs.length vcap] 27)) := (Below.refl _ w).alloc (Nat.le_refl _) _
  have HM := Lib.hid (markIntS_any (.slice va xs.length vcap) xs B k _ (ownsN_below h hb) hn k0 (by omega))
  have HB := Lib.hid hb
  have HO := Lib.hid h
  have HBW := Lib.hid hB
  clear h hb hn k0 k1 hB
  go_enter Tryd.func12, Tryd.ntmps12
  go_wp2_with fail
  refine HM.out.mono ?_
  rintro e w' ⟨rfl, og, hg⟩
  have hz : w.heap.size < (w.alloc (.cells #[.int .i64 id, .slice va xs.length vcap] 27)).heap.size := by simp
  have hlow : ∀ q, (Value.slice va xs.length vcap).ownBlock = some q → B ≤ q := fun q hq => (HO.out.lt q hq).1
  have b2 : Below B w w' := (HB.out.mono HBW.out).grown hg (Nat.le_trans HBW.out HB.out.size) hlow
  have k2 : ∀ j, j < w.heap.size → some j ≠ (Value.slice va xs.length vcap).ownBlock → w'.heap[j]? = w.heap[j]? := fun j hj hne => (hg.block j (Nat.lt_trans hj hz) hne).trans (HB.out.block j hj)
  clear hz hlow hg HM
  go_wp2
  go_ret
  exact ⟨rfl, og, b2, k2⟩
set_option maxHeartbeats 4000000 in
set_option maxRecDepth 100000 in
theorem heldRow_any (id : Int) (v : Value) (n : Nat) (k : Int) (w : World) (h : Ints w v (marks k n)) (hn : n ≤ 1048576) (k0 : 0 ≤ k) (k1 : k ≤ 1048576) :
    Calls Tryd.prog 13 #[.agg #[.int .i64 id, v], .int .i64 k] w fun e w' => e = .returned (.int .i64 (k + (n : Int))) ∧ Below w.heap.size w w' := by
  obtain ⟨va, vcap, hv⟩ := ints_len h
  rw [marks_length] at hv
  subst hv
  have hb : Below w.heap.size w (w.alloc (.cells #[.int .i64 id, .slice va n vcap] 27)) := (Below.refl _ w).alloc (Nat.le_refl _) _
  have HM := Lib.hid (heldIntS_any (.slice va n vcap) n k _ (ints_below h hb) hn k0 (by omega))
  have HB := Lib.hid hb
  have hneg : ¬ k + (n : Int) < 0 := by omega
  clear h hb hn k1
  go_enter Tryd.func13, Tryd.ntmps13
  go_wp2_with fail
  refine HM.out.mono ?_
  rintro e w' ⟨rfl, rfl⟩
  go_wp2
  go_ret
  exact ⟨rfl, HB.out⟩
set_option maxHeartbeats 8000000 in
set_option maxRecDepth 100000 in
theorem law_fnExactParseRow (s : ByteArray) (hs : s.size ≤ maxLen) (w : World) (htab : Tab w) :
    Calls Tryd.prog 4 #[.string s] w fun e w' => e = .returned (.bool true) ∧ Below w.heap.size w w' := by
  obtain ⟨l, rfl⟩ := strB_text s
  by_cases hl : l.length ≤ 1048576
  · have hsz : ¬ (1048576 : Int) < ((strB l).size : Int) := by rw [strB_size]; omega
    have HS := Lib.hid (fun w => specParseRow l w hl)
    have HI := Lib.hid (fun w h => implParseRow l w hl h)
    have HL := Lib.hid (parRow_len l)
    have HT := Lib.hid htab
    clear hs hl htab
    generalize parRow l = p at *
    obtain ⟨⟨id, xs⟩, b⟩ := p
    have HN : Hid (xs.length ≤ 1048576) := Lib.hid (by have := HL.out; simp only at this; omega)
    generalize strB l = sl at *
    have hbb : (b != b) = false := by simp
    go_enter Tryd.func4, Tryd.ntmps4
    go_wp2_with fail
    refine (HS.out _).mono ?_
    rintro e w1 ⟨r, rfl, or1, b1⟩
    obtain ⟨ra, rcap, rfl⟩ := ints_len (ownsN_ints or1)
    simp only at or1 ⊢
    go_wp2_with fail
    have hb1 : Below w1.heap.size w1 (w1.alloc (.cells #[.int .i64 id, .slice ra xs.length rcap] 27)) := (Below.refl _ w1).alloc (Nat.le_refl _) _
    have g3 := heap_alloc_new w1 (.cells #[.int .i64 id, .slice ra xs.length rcap] 27)
    have l3 : w1.heap.size < (w1.alloc (.cells #[.int .i64 id, .slice ra xs.length rcap] 27)).heap.size := by simp
    have ir := ints_below (ownsN_ints or1) hb1
    have bW := b1.trans (hb1.mono b1.size)
    obtain ⟨W1, hW1⟩ : ∃ W1, w1.alloc (.cells #[.int .i64 id, .slice ra xs.length rcap] 27) = W1 := ⟨_, rfl⟩
    rw [hW1] at hb1 g3 l3 ir bW ⊢
    clear hW1 hb1 or1 b1
    have BW := Lib.hid bW
    have IR := Lib.hid ir
    have G3 := Lib.hid g3
    have L3 := Lib.hid l3
    clear bW ir g3 l3
    refine (HI.out _ (HT.out.on BW.out)).mono ?_
    rintro e w2 ⟨g, rfl, og2, b2⟩
    obtain ⟨ga, gcap, rfl⟩ := ints_len (ownsN_ints og2)
    simp only at og2 ⊢
    have hgb : ∀ q, some q = (Value.slice ga xs.length gcap).ownBlock → q < w2.heap.size := fun q hq => (og2.lt q hq.symm).2
    have hb5 : Below w2.heap.size w2 (w2.alloc (.cells #[.int .i64 id, .slice ga xs.length gcap] 27)) := (Below.refl _ w2).alloc (Nat.le_refl _) _
    have g5 := heap_alloc_new w2 (.cells #[.int .i64 id, .slice ga xs.length gcap] 27)
    have l5 : w2.heap.size < (w2.alloc (.cells #[.int .i64 id, .slice ga xs.length gcap] 27)).heap.size := by simp
    have c5 := b2.trans (hb5.mono b2.size)
    have g35 := (c5.block w1.heap.size L3.out).trans G3.out
    have og5 := ownsN_below og2 hb5
    have p0 := (cell_of_row (w2.alloc (.cells #[.int .i64 id, .slice ga xs.length gcap] 27)) _ 0 _ _ _ g35).trans (show _ = some (Value.int .i64 id) from rfl)
    have p1 := (cell_of_row (w2.alloc (.cells #[.int .i64 id, .slice ga xs.length gcap] 27)) _ 1 _ _ _ g35).trans (show _ = some (Value.slice ra xs.length rcap) from rfl)
    have HG5 := Lib.hid g5
    have HC5 := Lib.hid c5
    have HO5 := Lib.hid og5
    have HL5 := Lib.hid l5
    have HGB := Lib.hid hgb
    clear g5 c5 og5 l5 hb5 g35 b2 og2 hgb
    go_wp2_with fail
    generalize w2.alloc (.cells #[.int .i64 id, .slice ga xs.length gcap] 27) = W2 at *
    refine (eqRow_same id _ _ xs _ (ownsN_ints HO5.out) (ints_below IR.out HC5.out) HN.out).mono ?_
    rintro e w3 ⟨rfl, b3⟩
    have c3 := HC5.out.trans (b3.mono HC5.out.size)
    have g53 := (b3.block w2.heap.size HL5.out).trans HG5.out
    have og3 := ownsN_below HO5.out b3
    have z3 := Nat.lt_of_lt_of_le HL5.out b3.size
    clear p0 p1
    have q0 := (cell_of_row w3 _ 0 _ _ _ g53).trans (show _ = some (Value.int .i64 id) from rfl)
    have q1 := (cell_of_row w3 _ 1 _ _ _ g53).trans (show _ = some (Value.slice ga xs.length gcap) from rfl)
    have HG3 := Lib.hid g53
    have HC3 := Lib.hid c3
    have HO3 := Lib.hid og3
    have HZ3 := Lib.hid z3
    clear g53 c3 og3 z3 b3
    go_wp2_with fail
    refine (markRow_any id _ xs W1.heap.size 1 _ HO3.out HC3.out.size HN.out (by omega) (by omega)).mono ?_
    rintro e w4 ⟨rfl, og4, b4, k4⟩
    have c4 := HC3.out.trans b4
    have g54 := (k4 w2.heap.size HZ3.out (fun e => absurd (HGB.out _ e) (Nat.lt_irrefl _))).trans HG3.out
    clear q0 q1
    have q0 := (cell_of_row w4 _ 0 _ _ _ g54).trans (show _ = some (Value.int .i64 id) from rfl)
    have q1 := (cell_of_row w4 _ 1 _ _ _ g54).trans (show _ = some (Value.slice ga xs.length gcap) from rfl)
    have HG4 := Lib.hid g54
    have HC4 := Lib.hid c4
    have HO4 := Lib.hid og4
    clear g54 c4 og4 b4 k4
    go_wp2_with fail
    refine (heldRow_any id _ xs.length 1 _ (ownsN_ints HO4.out) HN.out (by omega) (by omega)).mono ?_
    rintro e w5 ⟨rfl, b5⟩
    have c5 := HC4.out.trans (b5.mono HC4.out.size)
    have g55 := (b5.block w2.heap.size (Array.getElem?_eq_some_iff.1 HG4.out).1).trans HG4.out
    have og5 := ownsN_below HO4.out b5
    clear q0 q1
    have HG6 := Lib.hid g55
    have HC6 := Lib.hid c5
    have HO6 := Lib.hid og5
    clear g55 c5 og5 b5
    have hneg : ¬ 1 + (xs.length : Int) < 0 := by omega
    go_wp2_with fail
    refine (HI.out _ (HT.out.on (BW.out.trans (HC6.out.mono BW.out.size)))).mono ?_
    rintro e w6 ⟨h, rfl, oh6, b6⟩
    obtain ⟨ha, hcap, rfl⟩ := ints_len (ownsN_ints oh6)
    simp only at oh6 ⊢
    have hb7 : Below w6.heap.size w6 (w6.alloc (.cells #[.int .i64 id, .slice ha xs.length hcap] 27)) := (Below.refl _ w6).alloc (Nat.le_refl _) _
    have c7 := (HC6.out.trans (b6.mono HC6.out.size)).trans (hb7.mono (HC6.out.trans (b6.mono HC6.out.size)).size)
    have b67 := b6.trans (hb7.mono b6.size)
    have g37 := (c7.block w1.heap.size L3.out).trans G3.out
    have g57 := (b67.block w2.heap.size (Array.getElem?_eq_some_iff.1 HG6.out).1).trans HG6.out
    have oh7 := ownsN_below oh6 hb7
    have og7 := ownsN_below HO6.out b67
    have p0 := (cell_of_row (w6.alloc (.cells #[.int .i64 id, .slice ha xs.length hcap] 27)) _ 0 _ _ _ g37).trans (show _ = some (Value.int .i64 id) from rfl)
    have p1 := (cell_of_row (w6.alloc (.cells #[.int .i64 id, .slice ha xs.length hcap] 27)) _ 1 _ _ _ g37).trans (show _ = some (Value.slice ra xs.length rcap) from rfl)
    have HC7 := Lib.hid c7
    have HG7 := Lib.hid g57
    have HH7 := Lib.hid oh7
    have HO7 := Lib.hid og7
    clear c7 b67 g37 g57 oh7 og7 hb7 b6 oh6
    go_wp2_with fail
    generalize w6.alloc (.cells #[.int .i64 id, .slice ha xs.length hcap] 27) = W7 at *
    refine (eqRow_same id _ _ xs _ (ownsN_ints HH7.out) (ints_below IR.out HC7.out) HN.out).mono ?_
    rintro e w8 ⟨rfl, b8⟩
    have c8 := HC7.out.trans (b8.mono HC7.out.size)
    have g58 := (b8.block w2.heap.size (Array.getElem?_eq_some_iff.1 HG7.out).1).trans HG7.out
    have og8 := ownsN_below HO7.out b8
    clear p0 p1
    have q0 := (cell_of_row w8 _ 0 _ _ _ g58).trans (show _ = some (Value.int .i64 id) from rfl)
    have q1 := (cell_of_row w8 _ 1 _ _ _ g58).trans (show _ = some (Value.slice ga xs.length gcap) from rfl)
    have HC8 := Lib.hid c8
    have HO8 := Lib.hid og8
    clear c8 g58 og8 b8
    go_wp2_with fail
    refine (heldRow_any id _ xs.length 1 _ (ownsN_ints HO8.out) HN.out (by omega) (by omega)).mono ?_
    rintro e w9 ⟨rfl, b9⟩
    have b10 := BW.out.trans ((HC8.out.trans (b9.mono HC8.out.size)).mono BW.out.size)
    clear b9 q0 q1
    go_wp2
    go_ret
    exact ⟨rfl, b10⟩
  · have hsz : (1048576 : Int) < ((strB l).size : Int) := by rw [strB_size]; omega
    clear hs hl htab
    generalize strB l = sl at *
    go_enter Tryd.func4, Tryd.ntmps4
    go_wp2
    go_ret
    exact ⟨rfl, Below.refl _ _⟩
end Go.Proofs.YtjmiihgaaagojaaDoor
