/-
  The walk of the program's ParseRow: it answers what 'parRow' says, in memory of its own.
-/
import Derived.Test.YtjmiihgaaagojaaDoorSplitInts
import Derived.Test.YtjmiihgaaagojaaDoorCutK
import Derived.Test.YtjmiihgaaagojaaDoorRowIsP
namespace Go.Proofs.YtjmiihgaaagojaaDoor
open Go.RowKit
set_option linter.unusedVariables false
set_option linter.unusedSimpArgs false
/-- What ParseRow answers. -/
def ParAns (w : World) (p : RowD × Bool) (e : Ending) (w' : World) : Prop := ∃ v, e = .returned (.tuple #[.agg #[.int .i64 p.1.1, v], .bool p.2]) ∧ OwnsN w' w.heap.size v p.1.2 ∧ Below w.heap.size w w'
theorem parAns_no {w w' : World} {p : RowD × Bool} (h : p = ((0, []), false)) (b : Below w.heap.size w w') : ParAns w p (.returned (.tuple #[.agg #[.int .i64 0, .slice none 0 0], .bool false])) w' := ⟨.slice none 0 0, by rw [h], by rw [h]; exact ownsN_nil _ _, b⟩
theorem parAns_yes {w w' : World} {p : RowD × Bool} {id : Int} {xs : List Int} {v : Value} (h : p = ((id, xs), true)) (o : OwnsN w' w.heap.size v xs) (b : Below w.heap.size w w') : ParAns w p (.returned (.tuple #[.agg #[.int .i64 id, v], .bool true])) w' := ⟨v, by rw [h], by rw [h]; exact o, b⟩
theorem parP (q : List UInt8) (w : World) (hq : q.length ≤ 1048576) (hT : Tab w) : Calls Tryd.prog 26 #[.string (strB q)] w fun e w' => e = .returned (.tuple #[.int .i64 (parI q).1, .bool (parI q).2]) ∧ Below w.heap.size w w' := implPar (strB q) w (by rw [strB_size]; exact hq) hT
theorem splitP_no (q : List UInt8) (w : World) (hq : q.length ≤ 1048576) (hT : Tab w) (h : intsGo [] (cutL 44 q) = none) : Calls Tryd.prog 27 #[.string (strB q)] w fun e w' => ∃ a cap, e = .returned (.tuple #[.slice a 0 cap, .bool false]) ∧ Below w.heap.size w w' :=
  (Comma.splitInts_any q w hq hT).mono fun e w' ⟨v, he, ho, hb⟩ => by
    rw [h] at he ho
    obtain ⟨a, cap, e2⟩ := ints_len (ownsN_ints ho)
    exact ⟨a, cap, by rw [he, e2]; rfl, hb⟩
theorem splitP_yes (q : List UInt8) (xs : List Int) (w : World) (hq : q.length ≤ 1048576) (hT : Tab w) (h : intsGo [] (cutL 44 q) = some xs) : Calls Tryd.prog 27 #[.string (strB q)] w fun e w' => ∃ a cap, e = .returned (.tuple #[.slice a xs.length cap, .bool true]) ∧ OwnsN w' w.heap.size (.slice a xs.length cap) xs ∧ Below w.heap.size w w' :=
  (Comma.splitInts_any q w hq hT).mono fun e w' ⟨v, he, ho, hb⟩ => by
    rw [h] at he ho
    obtain ⟨a, cap, e2⟩ := ints_len (ownsN_ints ho)
    simp only [Option.getD_some] at e2 ho
    exact ⟨a, cap, by rw [he, e2]; rfl, by rw [← e2]; exact ho, hb⟩
theorem splitP_any (q : List UInt8) (w : World) (hq : q.length ≤ 1048576) (hT : Tab w) : Calls Tryd.prog 27 #[.string (strB q)] w fun e w' => ∃ a n cap b, e = .returned (.tuple #[.slice a n cap, .bool b]) ∧ Below w.heap.size w w' :=
  (Comma.splitInts_any q w hq hT).mono fun e w' ⟨v, he, ho, hb⟩ => by
    obtain ⟨a, cap, e2⟩ := ints_len (ownsN_ints ho)
    exact ⟨a, _, cap, _, by rw [he, e2], hb⟩
set_option maxHeartbeats 8000000 in
set_option maxRecDepth 100000 in
theorem parRow_noColon (l : List UInt8) (w : World) (hl : l.length ≤ 1048576) (hT : Tab w) (h : (58 : UInt8) ∉ l) :
    Calls Tryd.prog 11 #[.string (strB l)] w (ParAns w (parRow l)) := by
  have HT := Lib.hid hT
  have HA := Lib.hid (row_none h)
  have HC := Lib.hid (fun w => Colon.cut_no l w h)
  have HP := Lib.hid (fun w hT => parP l w hl hT)
  have HS := Lib.hid (fun w hT => splitP_any [] w (by simp) hT)
  have e58 : (⟨#[58]⟩ : ByteArray) = strB [58] := rfl
  clear hT h
  generalize parRow l = p at *
  generalize (parI l).1 = pn at *
  generalize (parI l).2 = pb at *
  clear hl
  generalize strB l = sl at *
  generalize strB [] = se at *
  clear e58
  go_enter Tryd.func11, Tryd.ntmps11
  go_wp2_with fail
  have hb0 : Below w.heap.size w (w.alloc (.cells #[.int .i64 0, .slice none 0 0] 27)) := (Below.refl _ w).alloc (Nat.le_refl _) _
  have g0 := heap_alloc_new w (.cells #[.int .i64 0, .slice none 0 0] 27)
  have hlt : w.heap.size < (w.alloc (.cells #[.int .i64 0, .slice none 0 0] 27)).heap.size := by simp
  generalize w.alloc (.cells #[.int .i64 0, .slice none 0 0] 27) = W at *
  refine (HC.out _).mono ?_
  rintro e w1 ⟨rfl, b1⟩
  have c1 := hb0.trans (b1.mono hb0.size)
  have g1 := (b1.block w.heap.size hlt).trans g0
  have l1 := Nat.lt_of_lt_of_le hlt b1.size
  clear hb0 g0 hlt b1
  go_wp2_with fail
  refine (HP.out _ (HT.out.on c1)).mono ?_
  rintro e w2 ⟨rfl, b2⟩
  have c2 := c1.trans (b2.mono c1.size)
  have g2 := (b2.block w.heap.size l1).trans g1
  have l2 := Nat.lt_of_lt_of_le l1 b2.size
  clear c1 g1 l1 b2
  go_wp2_with fail
  refine (HS.out _ (HT.out.on c2)).mono ?_
  rintro e w3 ⟨va, vn, vcap, sb, rfl, b3⟩
  have c3 := c2.trans (b3.mono c2.size)
  have g3 := (b3.block w.heap.size l2).trans g2
  have l3 := Nat.lt_of_lt_of_le l2 b3.size
  have hb4 : Below w3.heap.size w3 (w3.alloc (.cells #[.int .i64 pn, .slice va vn vcap] 27)) := (Below.refl _ w3).alloc (Nat.le_refl _) _
  have c4 := c3.trans (hb4.mono c3.size)
  have g4 := (hb4.block w.heap.size l3).trans g3
  have g5 := heap_alloc_new w3 (.cells #[.int .i64 pn, .slice va vn vcap] 27)
  have l5 : w3.heap.size < (w3.alloc (.cells #[.int .i64 pn, .slice va vn vcap] 27)).heap.size := by simp
  have q0 := cell_of_row (w3.alloc (.cells #[.int .i64 pn, .slice va vn vcap] 27)) _ 0 _ _ _ g5
  have q1 := cell_of_row (w3.alloc (.cells #[.int .i64 pn, .slice va vn vcap] 27)) _ 1 _ _ _ g5
  replace q0 := q0.trans (show _ = some (Value.int .i64 pn) from rfl)
  replace q1 := q1.trans (show _ = some (Value.slice va vn vcap) from rfl)
  have d0 := (cell_of_row (w3.alloc (.cells #[.int .i64 pn, .slice va vn vcap] 27)) _ 0 _ _ _ g4).trans (show _ = some (Value.int .i64 0) from rfl)
  have d1 := (cell_of_row (w3.alloc (.cells #[.int .i64 pn, .slice va vn vcap] 27)) _ 1 _ _ _ g4).trans (show _ = some (Value.slice none 0 0) from rfl)
  have f0 := frozen_of_row (w3.alloc (.cells #[.int .i64 pn, .slice va vn vcap] 27)) _ 0 _ _ g4
  have f1 := frozen_of_row (w3.alloc (.cells #[.int .i64 pn, .slice va vn vcap] 27)) _ 1 _ _ g4
  have HG4 := Lib.hid g4
  have HG5 := Lib.hid g5
  have HC4 := Lib.hid c4
  have HB4 := Lib.hid hb4
  have HL5 := Lib.hid l5
  clear g4 g5 c4 hb4 l5 c3 g3 l3 c2 g2 l2 b3
  go_wp2
  generalize w3.alloc (.cells #[.int .i64 pn, .slice va vn vcap] 27) = W4 at *
  have r1 := heap_setCell_same W4 w.heap.size 0 _ _ (.int .i64 0) HG4.out
  have r2 := heap_setCell_same _ w.heap.size 1 _ _ (.slice none 0 0) r1
  have B4 := (HC4.out.setCell (p := ⟨w.heap.size, 0, none⟩) (Nat.le_refl _) (.int .i64 0)).setCell (p := ⟨w.heap.size, 1, none⟩) (Nat.le_refl _) (.slice none 0 0)
  have e0 := cell_of_row _ _ 0 _ _ _ r2
  have e1 := cell_of_row _ _ 1 _ _ _ r2
  simp at e0 e1
  refine bodyPost_ret (v := .tuple #[.agg #[.int .i64 0, .slice none 0 0], .bool false]) ?_ rfl ?_
  · simp [results, Tryd.f11, go_sem, e0, e1]
  · exact parAns_no HA.out B4
set_option maxHeartbeats 8000000 in
set_option maxRecDepth 100000 in
theorem parRow_noNumber (a b : List UInt8) (w : World) (hl : (a ++ 58 :: b).length ≤ 1048576) (hT : Tab w) (ha : (58 : UInt8) ∉ a) (hp : (parI a).2 = false) :
    Calls Tryd.prog 11 #[.string (strB (a ++ 58 :: b))] w (ParAns w (parRow (a ++ 58 :: b))) := by
  have HT := Lib.hid hT
  have HA := Lib.hid (row_rej (b := b) rfl ha (fun g => by rw [g.1] at hp; exact Bool.noConfusion hp))
  have HC := Lib.hid (fun w => Colon.cut_yes a b w ha hl)
  have HP := Lib.hid (fun w hT => parP a w (by simp at hl; omega) hT)
  have HS := Lib.hid (fun w hT => splitP_any b w (by simp at hl; omega) hT)
  rw [hp] at HP
  clear hT hp
  generalize (parI a).1 = pn at *
  generalize parRow (a ++ 58 :: b) = p at *
  clear hl ha
  generalize strB (a ++ 58 :: b) = sl at *
  generalize strB a = sa at *
  generalize strB b = sb at *
  go_enter Tryd.func11, Tryd.ntmps11
  go_wp2_with fail
  have hb0 : Below w.heap.size w (w.alloc (.cells #[.int .i64 0, .slice none 0 0] 27)) := (Below.refl _ w).alloc (Nat.le_refl _) _
  have g0 := heap_alloc_new w (.cells #[.int .i64 0, .slice none 0 0] 27)
  have hlt : w.heap.size < (w.alloc (.cells #[.int .i64 0, .slice none 0 0] 27)).heap.size := by simp
  generalize w.alloc (.cells #[.int .i64 0, .slice none 0 0] 27) = W at *
  refine (HC.out _).mono ?_
  rintro e w1 ⟨rfl, b1⟩
  have c1 := hb0.trans (b1.mono hb0.size)
  have g1 := (b1.block w.heap.size hlt).trans g0
  have l1 := Nat.lt_of_lt_of_le hlt b1.size
  clear hb0 g0 hlt b1
  go_wp2_with fail
  refine (HP.out _ (HT.out.on c1)).mono ?_
  rintro e w2 ⟨rfl, b2⟩
  have c2 := c1.trans (b2.mono c1.size)
  have g2 := (b2.block w.heap.size l1).trans g1
  have l2 := Nat.lt_of_lt_of_le l1 b2.size
  clear c1 g1 l1 b2
  go_wp2_with fail
  refine (HS.out _ (HT.out.on c2)).mono ?_
  rintro e w3 ⟨va, vn, vcap, sbb, rfl, b3⟩
  have c3 := c2.trans (b3.mono c2.size)
  have g3 := (b3.block w.heap.size l2).trans g2
  have l3 := Nat.lt_of_lt_of_le l2 b3.size
  have hb4 : Below w3.heap.size w3 (w3.alloc (.cells #[.int .i64 pn, .slice va vn vcap] 27)) := (Below.refl _ w3).alloc (Nat.le_refl _) _
  have c4 := c3.trans (hb4.mono c3.size)
  have g4 := (hb4.block w.heap.size l3).trans g3
  have g5 := heap_alloc_new w3 (.cells #[.int .i64 pn, .slice va vn vcap] 27)
  have l5 : w3.heap.size < (w3.alloc (.cells #[.int .i64 pn, .slice va vn vcap] 27)).heap.size := by simp
  have q0 := cell_of_row (w3.alloc (.cells #[.int .i64 pn, .slice va vn vcap] 27)) _ 0 _ _ _ g5
  have q1 := cell_of_row (w3.alloc (.cells #[.int .i64 pn, .slice va vn vcap] 27)) _ 1 _ _ _ g5
  replace q0 := q0.trans (show _ = some (Value.int .i64 pn) from rfl)
  replace q1 := q1.trans (show _ = some (Value.slice va vn vcap) from rfl)
  have d0 := (cell_of_row (w3.alloc (.cells #[.int .i64 pn, .slice va vn vcap] 27)) _ 0 _ _ _ g4).trans (show _ = some (Value.int .i64 0) from rfl)
  have d1 := (cell_of_row (w3.alloc (.cells #[.int .i64 pn, .slice va vn vcap] 27)) _ 1 _ _ _ g4).trans (show _ = some (Value.slice none 0 0) from rfl)
  have f0 := frozen_of_row (w3.alloc (.cells #[.int .i64 pn, .slice va vn vcap] 27)) _ 0 _ _ g4
  have f1 := frozen_of_row (w3.alloc (.cells #[.int .i64 pn, .slice va vn vcap] 27)) _ 1 _ _ g4
  have HG4 := Lib.hid g4
  have HG5 := Lib.hid g5
  have HC4 := Lib.hid c4
  have HB4 := Lib.hid hb4
  have HL5 := Lib.hid l5
  clear g4 g5 c4 hb4 l5 c3 g3 l3 c2 g2 l2 b3
  go_wp2
  generalize w3.alloc (.cells #[.int .i64 pn, .slice va vn vcap] 27) = W4 at *
  have r1 := heap_setCell_same W4 w.heap.size 0 _ _ (.int .i64 0) HG4.out
  have r2 := heap_setCell_same _ w.heap.size 1 _ _ (.slice none 0 0) r1
  have B4 := (HC4.out.setCell (p := ⟨w.heap.size, 0, none⟩) (Nat.le_refl _) (.int .i64 0)).setCell (p := ⟨w.heap.size, 1, none⟩) (Nat.le_refl _) (.slice none 0 0)
  have e0 := cell_of_row _ _ 0 _ _ _ r2
  have e1 := cell_of_row _ _ 1 _ _ _ r2
  simp at e0 e1
  refine bodyPost_ret (v := .tuple #[.agg #[.int .i64 0, .slice none 0 0], .bool false]) ?_ rfl ?_
  · simp [results, Tryd.f11, go_sem, e0, e1]
  · exact parAns_no HA.out B4
set_option maxHeartbeats 8000000 in
set_option maxRecDepth 100000 in
theorem parRow_noPiece (a b : List UInt8) (w : World) (hl : (a ++ 58 :: b).length ≤ 1048576) (hT : Tab w) (ha : (58 : UInt8) ∉ a) (hp : (parI a).2 = true) (hs : intsGo [] (cutL 44 b) = none) :
    Calls Tryd.prog 11 #[.string (strB (a ++ 58 :: b))] w (ParAns w (parRow (a ++ 58 :: b))) := by
  have HT := Lib.hid hT
  have HA := Lib.hid (row_rej (b := b) rfl ha (fun g => intsGo_none hs g.2.1))
  have HC := Lib.hid (fun w => Colon.cut_yes a b w ha hl)
  have HP := Lib.hid (fun w hT => parP a w (by simp at hl; omega) hT)
  have HS := Lib.hid (fun w hT => splitP_no b w (by simp at hl; omega) hT hs)
  rw [hp] at HP
  clear hT hp hs
  generalize (parI a).1 = pn at *
  generalize parRow (a ++ 58 :: b) = p at *
  clear hl ha
  generalize strB (a ++ 58 :: b) = sl at *
  generalize strB a = sa at *
  generalize strB b = sb at *
  go_enter Tryd.func11, Tryd.ntmps11
  go_wp2_with fail
  have hb0 : Below w.heap.size w (w.alloc (.cells #[.int .i64 0, .slice none 0 0] 27)) := (Below.refl _ w).alloc (Nat.le_refl _) _
  have g0 := heap_alloc_new w (.cells #[.int .i64 0, .slice none 0 0] 27)
  have hlt : w.heap.size < (w.alloc (.cells #[.int .i64 0, .slice none 0 0] 27)).heap.size := by simp
  generalize w.alloc (.cells #[.int .i64 0, .slice none 0 0] 27) = W at *
  refine (HC.out _).mono ?_
  rintro e w1 ⟨rfl, b1⟩
  have c1 := hb0.trans (b1.mono hb0.size)
  have g1 := (b1.block w.heap.size hlt).trans g0
  have l1 := Nat.lt_of_lt_of_le hlt b1.size
  clear hb0 g0 hlt b1
  go_wp2_with fail
  refine (HP.out _ (HT.out.on c1)).mono ?_
  rintro e w2 ⟨rfl, b2⟩
  have c2 := c1.trans (b2.mono c1.size)
  have g2 := (b2.block w.heap.size l1).trans g1
  have l2 := Nat.lt_of_lt_of_le l1 b2.size
  clear c1 g1 l1 b2
  go_wp2_with fail
  refine (HS.out _ (HT.out.on c2)).mono ?_
  rintro e w3 ⟨va, vcap, rfl, b3⟩
  have c3 := c2.trans (b3.mono c2.size)
  have g3 := (b3.block w.heap.size l2).trans g2
  have l3 := Nat.lt_of_lt_of_le l2 b3.size
  have hb4 : Below w3.heap.size w3 (w3.alloc (.cells #[.int .i64 pn, .slice va 0 vcap] 27)) := (Below.refl _ w3).alloc (Nat.le_refl _) _
  have c4 := c3.trans (hb4.mono c3.size)
  have g4 := (hb4.block w.heap.size l3).trans g3
  have g5 := heap_alloc_new w3 (.cells #[.int .i64 pn, .slice va 0 vcap] 27)
  have l5 : w3.heap.size < (w3.alloc (.cells #[.int .i64 pn, .slice va 0 vcap] 27)).heap.size := by simp
  have q0 := cell_of_row (w3.alloc (.cells #[.int .i64 pn, .slice va 0 vcap] 27)) _ 0 _ _ _ g5
  have q1 := cell_of_row (w3.alloc (.cells #[.int .i64 pn, .slice va 0 vcap] 27)) _ 1 _ _ _ g5
  replace q0 := q0.trans (show _ = some (Value.int .i64 pn) from rfl)
  replace q1 := q1.trans (show _ = some (Value.slice va 0 vcap) from rfl)
  have d0 := (cell_of_row (w3.alloc (.cells #[.int .i64 pn, .slice va 0 vcap] 27)) _ 0 _ _ _ g4).trans (show _ = some (Value.int .i64 0) from rfl)
  have d1 := (cell_of_row (w3.alloc (.cells #[.int .i64 pn, .slice va 0 vcap] 27)) _ 1 _ _ _ g4).trans (show _ = some (Value.slice none 0 0) from rfl)
  have f0 := frozen_of_row (w3.alloc (.cells #[.int .i64 pn, .slice va 0 vcap] 27)) _ 0 _ _ g4
  have f1 := frozen_of_row (w3.alloc (.cells #[.int .i64 pn, .slice va 0 vcap] 27)) _ 1 _ _ g4
  have HG4 := Lib.hid g4
  have HG5 := Lib.hid g5
  have HC4 := Lib.hid c4
  have HB4 := Lib.hid hb4
  have HL5 := Lib.hid l5
  clear g4 g5 c4 hb4 l5 c3 g3 l3 c2 g2 l2 b3
  go_wp2
  generalize w3.alloc (.cells #[.int .i64 pn, .slice va 0 vcap] 27) = W4 at *
  have r1 := heap_setCell_same W4 w.heap.size 0 _ _ (.int .i64 0) HG4.out
  have r2 := heap_setCell_same _ w.heap.size 1 _ _ (.slice none 0 0) r1
  have B4 := (HC4.out.setCell (p := ⟨w.heap.size, 0, none⟩) (Nat.le_refl _) (.int .i64 0)).setCell (p := ⟨w.heap.size, 1, none⟩) (Nat.le_refl _) (.slice none 0 0)
  have e0 := cell_of_row _ _ 0 _ _ _ r2
  have e1 := cell_of_row _ _ 1 _ _ _ r2
  simp at e0 e1
  refine bodyPost_ret (v := .tuple #[.agg #[.int .i64 0, .slice none 0 0], .bool false]) ?_ rfl ?_
  · simp [results, Tryd.f11, go_sem, e0, e1]
  · exact parAns_no HA.out B4
set_option maxHeartbeats 8000000 in
set_option maxRecDepth 100000 in
theorem parRow_noRow (a b : List UInt8) (xs : List Int) (w : World) (hl : (a ++ 58 :: b).length ≤ 1048576) (hT : Tab w) (ha : (58 : UInt8) ∉ a) (hp : (parI a).2 = true) (hs : intsGo [] (cutL 44 b) = some xs) (hr : rowB ((parI a).1, xs) = false) :
    Calls Tryd.prog 11 #[.string (strB (a ++ 58 :: b))] w (ParAns w (parRow (a ++ 58 :: b))) := by
  have HT := Lib.hid hT
  obtain ⟨hall, hxs⟩ := intsGo_some _ _ _ hs
  rw [List.nil_append] at hxs
  have HXL : Hid (xs.length ≤ 1048576) := Lib.hid (by rw [hxs, List.length_map]; have := cut_len 44 b; simp at hl; omega)
  have HA := Lib.hid (row_rej (b := b) rfl ha (fun g => by have := g.2.2; rw [← hxs, hr] at this; exact Bool.noConfusion this))
  have HC := Lib.hid (fun w => Colon.cut_yes a b w ha hl)
  have HP := Lib.hid (fun w hT => parP a w (by simp at hl; omega) hT)
  have HS := Lib.hid (fun w hT => splitP_yes b xs w (by simp at hl; omega) hT hs)
  have HR := Lib.hid (fun v w h => implIsRow (parI a).1 v xs w h HXL.out)
  rw [hr] at HR
  rw [hp] at HP
  clear hT hp hs hxs hall hr
  generalize (parI a).1 = pn at *
  generalize parRow (a ++ 58 :: b) = p at *
  clear hl ha
  generalize strB (a ++ 58 :: b) = sl at *
  generalize strB a = sa at *
  generalize strB b = sb at *
  go_enter Tryd.func11, Tryd.ntmps11
  go_wp2_with fail
  have hb0 : Below w.heap.size w (w.alloc (.cells #[.int .i64 0, .slice none 0 0] 27)) := (Below.refl _ w).alloc (Nat.le_refl _) _
  have g0 := heap_alloc_new w (.cells #[.int .i64 0, .slice none 0 0] 27)
  have hlt : w.heap.size < (w.alloc (.cells #[.int .i64 0, .slice none 0 0] 27)).heap.size := by simp
  generalize w.alloc (.cells #[.int .i64 0, .slice none 0 0] 27) = W at *
  refine (HC.out _).mono ?_
  rintro e w1 ⟨rfl, b1⟩
  have c1 := hb0.trans (b1.mono hb0.size)
  have g1 := (b1.block w.heap.size hlt).trans g0
  have l1 := Nat.lt_of_lt_of_le hlt b1.size
  clear hb0 g0 hlt b1
  go_wp2_with fail
  refine (HP.out _ (HT.out.on c1)).mono ?_
  rintro e w2 ⟨rfl, b2⟩
  have c2 := c1.trans (b2.mono c1.size)
  have g2 := (b2.block w.heap.size l1).trans g1
  have l2 := Nat.lt_of_lt_of_le l1 b2.size
  clear c1 g1 l1 b2
  go_wp2_with fail
  refine (HS.out _ (HT.out.on c2)).mono ?_
  rintro e w3 ⟨va, vcap, rfl, o3, b3⟩
  have c3 := c2.trans (b3.mono c2.size)
  have g3 := (b3.block w.heap.size l2).trans g2
  have l3 := Nat.lt_of_lt_of_le l2 b3.size
  have HL2 := Lib.hid l2
  have hb4 : Below w3.heap.size w3 (w3.alloc (.cells #[.int .i64 pn, .slice va xs.length vcap] 27)) := (Below.refl _ w3).alloc (Nat.le_refl _) _
  have c4 := c3.trans (hb4.mono c3.size)
  have g4 := (hb4.block w.heap.size l3).trans g3
  have g5 := heap_alloc_new w3 (.cells #[.int .i64 pn, .slice va xs.length vcap] 27)
  have l5 : w3.heap.size < (w3.alloc (.cells #[.int .i64 pn, .slice va xs.length vcap] 27)).heap.size := by simp
  have q0 := cell_of_row (w3.alloc (.cells #[.int .i64 pn, .slice va xs.length vcap] 27)) _ 0 _ _ _ g5
  have q1 := cell_of_row (w3.alloc (.cells #[.int .i64 pn, .slice va xs.length vcap] 27)) _ 1 _ _ _ g5
  replace q0 := q0.trans (show _ = some (Value.int .i64 pn) from rfl)
  replace q1 := q1.trans (show _ = some (Value.slice va xs.length vcap) from rfl)
  have d0 := (cell_of_row (w3.alloc (.cells #[.int .i64 pn, .slice va xs.length vcap] 27)) _ 0 _ _ _ g4).trans (show _ = some (Value.int .i64 0) from rfl)
  have d1 := (cell_of_row (w3.alloc (.cells #[.int .i64 pn, .slice va xs.length vcap] 27)) _ 1 _ _ _ g4).trans (show _ = some (Value.slice none 0 0) from rfl)
  have f0 := frozen_of_row (w3.alloc (.cells #[.int .i64 pn, .slice va xs.length vcap] 27)) _ 0 _ _ g4
  have f1 := frozen_of_row (w3.alloc (.cells #[.int .i64 pn, .slice va xs.length vcap] 27)) _ 1 _ _ g4
  have HG4 := Lib.hid g4
  have HG5 := Lib.hid g5
  have HC4 := Lib.hid c4
  have HB4 := Lib.hid hb4
  have HL5 := Lib.hid l5
  clear g4 g5 c4 hb4 l5 c3 g3 l3 c2 g2 l2 b3
  have o4 := Lib.hid (ownsN_below o3 HB4.out)
  clear o3
  go_wp2_with fail
  generalize w3.alloc (.cells #[.int .i64 pn, .slice va xs.length vcap] 27) = W4 at *
  refine (HR.out _ _ (ownsN_ints o4.out)).mono ?_
  rintro e w5 ⟨rfl, b5⟩
  have c5 := HC4.out.trans (b5.mono HC4.out.size)
  have k4 := (b5.block w.heap.size (Array.getElem?_eq_some_iff.1 HG4.out).1).trans HG4.out
  have k5 := (b5.block w3.heap.size HL5.out).trans HG5.out
  have o5 := ownsN_below o4.out b5
  clear q0 q1 d0 d1 f0 f1
  have d0 := (cell_of_row w5 _ 0 _ _ _ k4).trans (show _ = some (Value.int .i64 0) from rfl)
  have d1 := (cell_of_row w5 _ 1 _ _ _ k4).trans (show _ = some (Value.slice none 0 0) from rfl)
  have f0 := frozen_of_row w5 _ 0 _ _ k4
  have f1 := frozen_of_row w5 _ 1 _ _ k4
  have q0 := (cell_of_row w5 _ 0 _ _ _ k5).trans (show _ = some (Value.int .i64 pn) from rfl)
  have q1 := (cell_of_row w5 _ 1 _ _ _ k5).trans (show _ = some (Value.slice va xs.length vcap) from rfl)
  have HK4 := Lib.hid k4
  have HC5 := Lib.hid c5
  have HO5 := Lib.hid o5
  clear k4 k5 c5 o5 b5
  go_wp2
  have r1 := heap_setCell_same w5 w.heap.size 0 _ _ (.int .i64 0) HK4.out
  have r2 := heap_setCell_same _ w.heap.size 1 _ _ (.slice none 0 0) r1
  have B4 := (HC5.out.setCell (p := ⟨w.heap.size, 0, none⟩) (Nat.le_refl _) (.int .i64 0)).setCell (p := ⟨w.heap.size, 1, none⟩) (Nat.le_refl _) (.slice none 0 0)
  have e0 := cell_of_row _ _ 0 _ _ _ r2
  have e1 := cell_of_row _ _ 1 _ _ _ r2
  simp at e0 e1
  refine bodyPost_ret (v := .tuple #[.agg #[.int .i64 0, .slice none 0 0], .bool false]) ?_ rfl ?_
  · simp [results, Tryd.f11, go_sem, e0, e1]
  · exact parAns_no HA.out B4
set_option maxHeartbeats 8000000 in
set_option maxRecDepth 100000 in
theorem parRow_row (a b : List UInt8) (xs : List Int) (w : World) (hl : (a ++ 58 :: b).length ≤ 1048576) (hT : Tab w) (ha : (58 : UInt8) ∉ a) (hp : (parI a).2 = true) (hs : intsGo [] (cutL 44 b) = some xs) (hr : rowB ((parI a).1, xs) = true) :
    Calls Tryd.prog 11 #[.string (strB (a ++ 58 :: b))] w (ParAns w (parRow (a ++ 58 :: b))) := by
  have HT := Lib.hid hT
  obtain ⟨hall, hxs⟩ := intsGo_some _ _ _ hs
  rw [List.nil_append] at hxs
  have HXL : Hid (xs.length ≤ 1048576) := Lib.hid (by rw [hxs, List.length_map]; have := cut_len 44 b; simp at hl; omega)
  have HA := Lib.hid (row_acc (b := b) rfl ha ⟨hp, hall, by rw [← hxs]; exact hr⟩)
  rw [← hxs] at HA
  have HC := Lib.hid (fun w => Colon.cut_yes a b w ha hl)
  have HP := Lib.hid (fun w hT => parP a w (by simp at hl; omega) hT)
  have HS := Lib.hid (fun w hT => splitP_yes b xs w (by simp at hl; omega) hT hs)
  have HR := Lib.hid (fun v w h => implIsRow (parI a).1 v xs w h HXL.out)
  rw [hr] at HR
  rw [hp] at HP
  clear hT hp hs hxs hall hr
  generalize (parI a).1 = pn at *
  generalize parRow (a ++ 58 :: b) = p at *
  clear hl ha
  generalize strB (a ++ 58 :: b) = sl at *
  generalize strB a = sa at *
  generalize strB b = sb at *
  go_enter Tryd.func11, Tryd.ntmps11
  go_wp2_with fail
  have hb0 : Below w.heap.size w (w.alloc (.cells #[.int .i64 0, .slice none 0 0] 27)) := (Below.refl _ w).alloc (Nat.le_refl _) _
  have g0 := heap_alloc_new w (.cells #[.int .i64 0, .slice none 0 0] 27)
  have hlt : w.heap.size < (w.alloc (.cells #[.int .i64 0, .slice none 0 0] 27)).heap.size := by simp
  generalize w.alloc (.cells #[.int .i64 0, .slice none 0 0] 27) = W at *
  refine (HC.out _).mono ?_
  rintro e w1 ⟨rfl, b1⟩
  have c1 := hb0.trans (b1.mono hb0.size)
  have g1 := (b1.block w.heap.size hlt).trans g0
  have l1 := Nat.lt_of_lt_of_le hlt b1.size
  clear hb0 g0 hlt b1
  go_wp2_with fail
  refine (HP.out _ (HT.out.on c1)).mono ?_
  rintro e w2 ⟨rfl, b2⟩
  have c2 := c1.trans (b2.mono c1.size)
  have g2 := (b2.block w.heap.size l1).trans g1
  have l2 := Nat.lt_of_lt_of_le l1 b2.size
  clear c1 g1 l1 b2
  go_wp2_with fail
  refine (HS.out _ (HT.out.on c2)).mono ?_
  rintro e w3 ⟨va, vcap, rfl, o3, b3⟩
  have c3 := c2.trans (b3.mono c2.size)
  have g3 := (b3.block w.heap.size l2).trans g2
  have l3 := Nat.lt_of_lt_of_le l2 b3.size
  have HL2 := Lib.hid l2
  have hb4 : Below w3.heap.size w3 (w3.alloc (.cells #[.int .i64 pn, .slice va xs.length vcap] 27)) := (Below.refl _ w3).alloc (Nat.le_refl _) _
  have c4 := c3.trans (hb4.mono c3.size)
  have g4 := (hb4.block w.heap.size l3).trans g3
  have g5 := heap_alloc_new w3 (.cells #[.int .i64 pn, .slice va xs.length vcap] 27)
  have l5 : w3.heap.size < (w3.alloc (.cells #[.int .i64 pn, .slice va xs.length vcap] 27)).heap.size := by simp
  have q0 := cell_of_row (w3.alloc (.cells #[.int .i64 pn, .slice va xs.length vcap] 27)) _ 0 _ _ _ g5
  have q1 := cell_of_row (w3.alloc (.cells #[.int .i64 pn, .slice va xs.length vcap] 27)) _ 1 _ _ _ g5
  replace q0 := q0.trans (show _ = some (Value.int .i64 pn) from rfl)
  replace q1 := q1.trans (show _ = some (Value.slice va xs.length vcap) from rfl)
  have d0 := (cell_of_row (w3.alloc (.cells #[.int .i64 pn, .slice va xs.length vcap] 27)) _ 0 _ _ _ g4).trans (show _ = some (Value.int .i64 0) from rfl)
  have d1 := (cell_of_row (w3.alloc (.cells #[.int .i64 pn, .slice va xs.length vcap] 27)) _ 1 _ _ _ g4).trans (show _ = some (Value.slice none 0 0) from rfl)
  have f0 := frozen_of_row (w3.alloc (.cells #[.int .i64 pn, .slice va xs.length vcap] 27)) _ 0 _ _ g4
  have f1 := frozen_of_row (w3.alloc (.cells #[.int .i64 pn, .slice va xs.length vcap] 27)) _ 1 _ _ g4
  have HG4 := Lib.hid g4
  have HG5 := Lib.hid g5
  have HC4 := Lib.hid c4
  have HB4 := Lib.hid hb4
  have HL5 := Lib.hid l5
  clear g4 g5 c4 hb4 l5 c3 g3 l3 c2 g2 l2 b3
  have o4 := Lib.hid (ownsN_below o3 HB4.out)
  clear o3
  go_wp2_with fail
  generalize w3.alloc (.cells #[.int .i64 pn, .slice va xs.length vcap] 27) = W4 at *
  refine (HR.out _ _ (ownsN_ints o4.out)).mono ?_
  rintro e w5 ⟨rfl, b5⟩
  have c5 := HC4.out.trans (b5.mono HC4.out.size)
  have k4 := (b5.block w.heap.size (Array.getElem?_eq_some_iff.1 HG4.out).1).trans HG4.out
  have k5 := (b5.block w3.heap.size HL5.out).trans HG5.out
  have o5 := ownsN_below o4.out b5
  clear q0 q1 d0 d1 f0 f1
  have d0 := (cell_of_row w5 _ 0 _ _ _ k4).trans (show _ = some (Value.int .i64 0) from rfl)
  have d1 := (cell_of_row w5 _ 1 _ _ _ k4).trans (show _ = some (Value.slice none 0 0) from rfl)
  have f0 := frozen_of_row w5 _ 0 _ _ k4
  have f1 := frozen_of_row w5 _ 1 _ _ k4
  have q0 := (cell_of_row w5 _ 0 _ _ _ k5).trans (show _ = some (Value.int .i64 pn) from rfl)
  have q1 := (cell_of_row w5 _ 1 _ _ _ k5).trans (show _ = some (Value.slice va xs.length vcap) from rfl)
  have HK4 := Lib.hid k4
  have HC5 := Lib.hid c5
  have HO5 := Lib.hid o5
  clear k4 k5 c5 o5 b5
  go_wp2
  have r1 := heap_setCell_same w5 w.heap.size 0 _ _ (.int .i64 pn) HK4.out
  have r2 := heap_setCell_same _ w.heap.size 1 _ _ (.slice va xs.length vcap) r1
  have B4 := (HC5.out.setCell (p := ⟨w.heap.size, 0, none⟩) (Nat.le_refl _) (.int .i64 pn)).setCell (p := ⟨w.heap.size, 1, none⟩) (Nat.le_refl _) (.slice va xs.length vcap)
  have o6 := ownsN_low (ownsN_low HO5.out (b := w.heap.size) HL2.out 0 (.int .i64 pn)) (b := w.heap.size) HL2.out 1 (.slice va xs.length vcap)
  have e0 := cell_of_row _ _ 0 _ _ _ r2
  have e1 := cell_of_row _ _ 1 _ _ _ r2
  simp at e0 e1
  refine bodyPost_ret (v := .tuple #[.agg #[.int .i64 pn, .slice va xs.length vcap], .bool true]) ?_ rfl ?_
  · simp [results, Tryd.f11, go_sem, e0, e1]
  · exact parAns_yes HA.out (ownsN_up o6 (Nat.le_of_lt HL2.out)) B4
theorem implParseRow (l : List UInt8) (w : World) (hl : l.length ≤ 1048576) (hT : Tab w) :
    Calls Tryd.prog 11 #[.string (strB l)] w (ParAns w (parRow l)) := by
  rcases index_cases l 58 with ⟨h, _⟩ | ⟨a, b, rfl, ha, _⟩
  · exact parRow_noColon l w hl hT h
  · cases hp : (parI a).2 with
    | false => exact parRow_noNumber a b w hl hT ha hp
    | true =>
      cases hs : intsGo [] (cutL 44 b) with
      | none => exact parRow_noPiece a b w hl hT ha hp hs
      | some xs =>
        cases hr : rowB ((parI a).1, xs) with
        | false => exact parRow_noRow a b xs w hl hT ha hp hs hr
        | true => exact parRow_row a b xs w hl hT ha hp hs hr
end Go.Proofs.YtjmiihgaaagojaaDoor
