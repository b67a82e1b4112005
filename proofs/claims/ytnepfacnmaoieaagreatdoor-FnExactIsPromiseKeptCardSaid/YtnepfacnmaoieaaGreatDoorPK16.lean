/-
 Texts of the proof, merged: PkS, JIntS, JVersion, JVersionS, JVersionSS, JStore, JCond, JCondS, JQuery, JRow, JRowS, JActive, JActiveS, JFinished, JFinishedS, JCharge, JChargeS.
-/
import Derived.Test.YtnepfacnmaoieaaGreatDoorPK1
import Derived.Test.YtnepfacnmaoieaaGreatDoorPK12
import Derived.BigQuiet
import Derived.Deep.QuietTactic
import Derived.Deep.RegionHeld3
import Derived.Deep.Cut
namespace Go.Proofs.YtnepfacnmaoieaaGreatDoor
open Go.RowKit
set_option maxRecDepth 100000
set_option linter.unusedVariables false
set_option linter.unusedSimpArgs false
/-- What is left of k behind a datum of the size z. -/
def szR (k : Int) (z : Nat) : Int := if (z : Int) ≤ k then k - (z : Int) else -1
theorem szR_y {k : Int} {z : Nat} (h : (z : Int) ≤ k) : szR k z = k - (z : Int) := if_pos h
theorem szR_n {k : Int} {z : Nat} (h : ¬ (z : Int) ≤ k) : szR k z = -1 := if_neg h
/-- The cells l from place o on. -/
def putL (cur : Array Value) (o : Nat) (l : List Value) : Array Value := (cur.toList.take o ++ l ++ cur.toList.drop (o + l.length)).toArray
theorem putL_size {cur : Array Value} {o : Nat} {l : List Value} (h : o + l.length ≤ cur.size) : (putL cur o l).size = cur.size := by
 unfold putL; simp; omega
theorem putL_get {cur : Array Value} {o : Nat} {l : List Value} (h : o + l.length ≤ cur.size) (p : Nat) : (putL cur o l)[p]? = if o ≤ p ∧ p < o + l.length then l[p - o]? else cur[p]? := by
 unfold putL
 have h1 : (cur.toList.take o).length = o := by simp; omega
 rw [List.getElem?_toArray]
 by_cases a : p < o
 ·
  rw [if_neg (by omega), List.append_assoc, List.getElem?_append_left (by omega), List.getElem?_take_of_lt a, Array.getElem?_toList]
 ·
  by_cases b : p < o + l.length
  ·
   rw [if_pos (by omega), List.append_assoc, List.getElem?_append_right (by omega), h1, List.getElem?_append_left (by omega)]
  ·
   rw [if_neg (by omega), List.append_assoc, List.getElem?_append_right (by omega), h1, List.getElem?_append_right (by omega), List.getElem?_drop, Array.getElem?_toList]
   congr 1; omega
theorem putL_set {cur : Array Value} {o : Nat} {l : List Value} (h : o + l.length < cur.size) (v : Value) : (putL cur o l).setIfInBounds (o + l.length) v = putL cur o (l ++ [v]) := by
 apply Array.ext_getElem?
 intro p
 have h1 : o + (l ++ [v]).length ≤ cur.size := by simp; omega
 rw [putL_get h1, Array.getElem?_setIfInBounds, putL_size (by omega), putL_get (by omega)]
 simp only [List.length_append, List.length_singleton]
 by_cases e : o + l.length = p
 ·
  subst e
  rw [if_pos rfl, if_pos h, if_pos (by omega)]
  simp
 ·
  rw [if_neg e]
  by_cases a : o ≤ p ∧ p < o + l.length
  ·
   rw [if_pos a, if_pos (by omega), List.getElem?_append_left (by omega)]
  ·
   rw [if_neg a, if_neg (by omega)]
theorem putL_one {cur : Array Value} {o : Nat} (h : o < cur.size) (v : Value) : cur.setIfInBounds o v = putL cur o [v] := by
 have := putL_set (cur := cur) (o := o) (l := []) (by simpa using h) v
 have e : putL cur o [] = cur := by
  apply Array.ext_getElem?
  intro p
  rw [putL_get (by simp; omega)]
  simp only [List.length_nil, Nat.add_zero]
  rw [if_neg (by omega)]
 rw [e] at this
 simpa using this
section
variable {α : Type}
/-- An element is written whole, with what it owns in new memory. -/
theorem slO_fill {e : TypeId} {T : Ty α} (A : T.Law) {w : World} {F : Nat → Prop} {g m cap : Nat} {xs : List α} (h : SlO e T w F (.slice (some ⟨g, 0, none⟩) m cap) xs) {j : Nat} (hj : j < xs.length) :
  ∃ cur : Array Value, w.heap[g]? = some (.cells cur e (0, 0)) ∧ j * T.n + T.n ≤ cur.size ∧ ∀ (w2 : World) (cs : List Value) (x : α) (G : Nat → Prop), Below w.heap.size w w2 → T.O w2 G cs x → (∀ b, G b → F b ∧ w.heap.size ≤ b) → SlO e T (w2.setRow g (putL cur (j * T.n) cs)) F (.slice (some ⟨g, 0, none⟩) m cap) (xs.set j x) := by
 obtain ⟨hm, hF, hgw, cs0, Fj, L, hrow, hLc, hO, hFj, hput⟩ := slO_open A h hj
 have hr := hrow
 rcases hr.2 with ⟨h', _⟩ | ⟨g', cap', cur, hv, hb, hg, hn, hcm, hcs, htake⟩
 ·
  simp at h'
 simp only [Value.slice.injEq, Option.some.injEq, Addr.mk.injEq] at hv
 obtain ⟨⟨rfl, _⟩, _, rfl⟩ := hv
 have hjn : (j + 1) * T.n ≤ xs.length * T.n := Nat.mul_le_mul_right _ hj
 have hcn : xs.length * T.n ≤ cap * T.n := Nat.mul_le_mul_right _ hn
 rw [Nat.add_mul, Nat.one_mul] at hjn
 refine ⟨cur, hg, by omega, fun w2 cs x G c o hG => ?_⟩
 have hcl : cs.length = T.n := A.len (A.reads o)
 have hg2 : w2.heap[g]? = some (.cells cur e (0, 0)) := (c.block g hgw).trans hg
 have hlen : j * T.n + cs.length ≤ cur.size := by omega
 refine hput (w2.setRow g (putL cur (j * T.n) cs)) ((putL cur (j * T.n) cs).toList.take (xs.length * T.n)) cs G x ⟨by have hz := putL_size hlen; rw [List.length_take]; show min _ (putL cur (j * T.n) cs).size = _; omega, .inr ⟨g, cap, _, rfl, hb, setRow_heap w2 g cur _ e (0, 0) hg2, hn, hcm, by rw [putL_size hlen]; exact hcs, rfl⟩⟩ (fun p hp => ?_) (fun i hi => ?_) (A.turn o turn_row (fun b hb q => by have := hG b hb; omega)) (fun b hb => ⟨(hG b hb).1, Or.inr (hG b hb).2⟩) ((Turn.mono (G := fun _ => False) ⟨c.os, c.tape, c.output, c.size, fun k hk _ => c.block k hk⟩ (fun _ q => False.elim q)).trans (turn_row.mono (fun b q => Or.inl q)))
 ·
  rw [← htake]
  by_cases q : p < xs.length * T.n
  ·
   rw [List.getElem?_take_of_lt q, List.getElem?_take_of_lt q, Array.getElem?_toList, Array.getElem?_toList, putL_get hlen, if_neg (by omega)]
  ·
   rw [List.getElem?_eq_none (by rw [List.length_take]; omega), List.getElem?_eq_none (by rw [List.length_take]; omega)]
 ·
  rw [List.getElem?_take_of_lt (by omega), Array.getElem?_toList, putL_get hlen, if_pos (by omega)]
  congr 1; omega
theorem row2 {w : World} {b o : Nat} {y0 y1 : Value} (h : ∀ i, i < 2 → w.cell? ⟨b, o + i, none⟩ = [y0, y1][i]?) : w.cell? ⟨b, o, none⟩ = some y0 ∧ w.cell? ⟨b, o + 1, none⟩ = some y1 :=
 ⟨h 0 (by decide), h 1 (by decide)⟩
theorem fill2 {P : Program} {w : World} {g o : Nat} {e : TypeId} {cur : Array Value} {y0 y1 : Value} (h : w.heap[g]? = some (.cells cur e (0, 0))) (hs : o + 2 ≤ cur.size) (h1 : ∀ v ∈ [y0, y1], v.oneCell' = true) : (store ⟨g, o, none⟩ y0).run P w = .ok () (w.setRow g (putL cur o [y0])) ∧ (store ⟨g, o + 1, none⟩ y1).run P (w.setRow g (putL cur o [y0])) = .ok () (w.setRow g (putL cur o [y0, y1])) :=
 ⟨by have := store_at (P := P) (j := o) h (by omega) (h1 y0 (by simp)); rw [putL_one (by omega)] at this; exact this,
 by have := store_at (P := P) (j := o + 1) (setRow_heap w g cur (putL cur o [y0]) e (0, 0) h) (by rw [putL_size (by simp; omega)]; omega) (h1 y1 (by simp)); have q : (putL cur o [y0]).setIfInBounds (o + 1) y1 = putL cur o [y0, y1] := putL_set (by simp; omega) y1; rw [setRow_setRow, q] at this; exact this⟩
theorem row3 {w : World} {b o : Nat} {y0 y1 y2 : Value} (h : ∀ i, i < 3 → w.cell? ⟨b, o + i, none⟩ = [y0, y1, y2][i]?) : w.cell? ⟨b, o, none⟩ = some y0 ∧ w.cell? ⟨b, o + 1, none⟩ = some y1 ∧ w.cell? ⟨b, o + 2, none⟩ = some y2 :=
 ⟨h 0 (by decide), h 1 (by decide), h 2 (by decide)⟩
theorem fill3 {P : Program} {w : World} {g o : Nat} {e : TypeId} {cur : Array Value} {y0 y1 y2 : Value} (h : w.heap[g]? = some (.cells cur e (0, 0))) (hs : o + 3 ≤ cur.size) (h1 : ∀ v ∈ [y0, y1, y2], v.oneCell' = true) : (store ⟨g, o, none⟩ y0).run P w = .ok () (w.setRow g (putL cur o [y0])) ∧ (store ⟨g, o + 1, none⟩ y1).run P (w.setRow g (putL cur o [y0])) = .ok () (w.setRow g (putL cur o [y0, y1])) ∧ (store ⟨g, o + 2, none⟩ y2).run P (w.setRow g (putL cur o [y0, y1])) = .ok () (w.setRow g (putL cur o [y0, y1, y2])) :=
 ⟨by have := store_at (P := P) (j := o) h (by omega) (h1 y0 (by simp)); rw [putL_one (by omega)] at this; exact this,
 by have := store_at (P := P) (j := o + 1) (setRow_heap w g cur (putL cur o [y0]) e (0, 0) h) (by rw [putL_size (by simp; omega)]; omega) (h1 y1 (by simp)); have q : (putL cur o [y0]).setIfInBounds (o + 1) y1 = putL cur o [y0, y1] := putL_set (by simp; omega) y1; rw [setRow_setRow, q] at this; exact this,
 by have := store_at (P := P) (j := o + 2) (setRow_heap w g cur (putL cur o [y0, y1]) e (0, 0) h) (by rw [putL_size (by simp; omega)]; omega) (h1 y2 (by simp)); have q : (putL cur o [y0, y1]).setIfInBounds (o + 2) y2 = putL cur o [y0, y1, y2] := putL_set (by simp; omega) y2; rw [setRow_setRow, q] at this; exact this⟩
theorem row4 {w : World} {b o : Nat} {y0 y1 y2 y3 : Value} (h : ∀ i, i < 4 → w.cell? ⟨b, o + i, none⟩ = [y0, y1, y2, y3][i]?) : w.cell? ⟨b, o, none⟩ = some y0 ∧ w.cell? ⟨b, o + 1, none⟩ = some y1 ∧ w.cell? ⟨b, o + 2, none⟩ = some y2 ∧ w.cell? ⟨b, o + 3, none⟩ = some y3 :=
 ⟨h 0 (by decide), h 1 (by decide), h 2 (by decide), h 3 (by decide)⟩
theorem fill4 {P : Program} {w : World} {g o : Nat} {e : TypeId} {cur : Array Value} {y0 y1 y2 y3 : Value} (h : w.heap[g]? = some (.cells cur e (0, 0))) (hs : o + 4 ≤ cur.size) (h1 : ∀ v ∈ [y0, y1, y2, y3], v.oneCell' = true) : (store ⟨g, o, none⟩ y0).run P w = .ok () (w.setRow g (putL cur o [y0])) ∧ (store ⟨g, o + 1, none⟩ y1).run P (w.setRow g (putL cur o [y0])) = .ok () (w.setRow g (putL cur o [y0, y1])) ∧ (store ⟨g, o + 2, none⟩ y2).run P (w.setRow g (putL cur o [y0, y1])) = .ok () (w.setRow g (putL cur o [y0, y1, y2])) ∧ (store ⟨g, o + 3, none⟩ y3).run P (w.setRow g (putL cur o [y0, y1, y2])) = .ok () (w.setRow g (putL cur o [y0, y1, y2, y3])) :=
 ⟨by have := store_at (P := P) (j := o) h (by omega) (h1 y0 (by simp)); rw [putL_one (by omega)] at this; exact this,
 by have := store_at (P := P) (j := o + 1) (setRow_heap w g cur (putL cur o [y0]) e (0, 0) h) (by rw [putL_size (by simp; omega)]; omega) (h1 y1 (by simp)); have q : (putL cur o [y0]).setIfInBounds (o + 1) y1 = putL cur o [y0, y1] := putL_set (by simp; omega) y1; rw [setRow_setRow, q] at this; exact this,
 by have := store_at (P := P) (j := o + 2) (setRow_heap w g cur (putL cur o [y0, y1]) e (0, 0) h) (by rw [putL_size (by simp; omega)]; omega) (h1 y2 (by simp)); have q : (putL cur o [y0, y1]).setIfInBounds (o + 2) y2 = putL cur o [y0, y1, y2] := putL_set (by simp; omega) y2; rw [setRow_setRow, q] at this; exact this,
 by have := store_at (P := P) (j := o + 3) (setRow_heap w g cur (putL cur o [y0, y1, y2]) e (0, 0) h) (by rw [putL_size (by simp; omega)]; omega) (h1 y3 (by simp)); have q : (putL cur o [y0, y1, y2]).setIfInBounds (o + 3) y3 = putL cur o [y0, y1, y2, y3] := putL_set (by simp; omega) y3; rw [setRow_setRow, q] at this; exact this⟩
theorem row5 {w : World} {b o : Nat} {y0 y1 y2 y3 y4 : Value} (h : ∀ i, i < 5 → w.cell? ⟨b, o + i, none⟩ = [y0, y1, y2, y3, y4][i]?) : w.cell? ⟨b, o, none⟩ = some y0 ∧ w.cell? ⟨b, o + 1, none⟩ = some y1 ∧ w.cell? ⟨b, o + 2, none⟩ = some y2 ∧ w.cell? ⟨b, o + 3, none⟩ = some y3 ∧ w.cell? ⟨b, o + 4, none⟩ = some y4 :=
 ⟨h 0 (by decide), h 1 (by decide), h 2 (by decide), h 3 (by decide), h 4 (by decide)⟩
theorem fill5 {P : Program} {w : World} {g o : Nat} {e : TypeId} {cur : Array Value} {y0 y1 y2 y3 y4 : Value} (h : w.heap[g]? = some (.cells cur e (0, 0))) (hs : o + 5 ≤ cur.size) (h1 : ∀ v ∈ [y0, y1, y2, y3, y4], v.oneCell' = true) : (store ⟨g, o, none⟩ y0).run P w = .ok () (w.setRow g (putL cur o [y0])) ∧ (store ⟨g, o + 1, none⟩ y1).run P (w.setRow g (putL cur o [y0])) = .ok () (w.setRow g (putL cur o [y0, y1])) ∧ (store ⟨g, o + 2, none⟩ y2).run P (w.setRow g (putL cur o [y0, y1])) = .ok () (w.setRow g (putL cur o [y0, y1, y2])) ∧ (store ⟨g, o + 3, none⟩ y3).run P (w.setRow g (putL cur o [y0, y1, y2])) = .ok () (w.setRow g (putL cur o [y0, y1, y2, y3])) ∧ (store ⟨g, o + 4, none⟩ y4).run P (w.setRow g (putL cur o [y0, y1, y2, y3])) = .ok () (w.setRow g (putL cur o [y0, y1, y2, y3, y4])) :=
 ⟨by have := store_at (P := P) (j := o) h (by omega) (h1 y0 (by simp)); rw [putL_one (by omega)] at this; exact this,
 by have := store_at (P := P) (j := o + 1) (setRow_heap w g cur (putL cur o [y0]) e (0, 0) h) (by rw [putL_size (by simp; omega)]; omega) (h1 y1 (by simp)); have q : (putL cur o [y0]).setIfInBounds (o + 1) y1 = putL cur o [y0, y1] := putL_set (by simp; omega) y1; rw [setRow_setRow, q] at this; exact this,
 by have := store_at (P := P) (j := o + 2) (setRow_heap w g cur (putL cur o [y0, y1]) e (0, 0) h) (by rw [putL_size (by simp; omega)]; omega) (h1 y2 (by simp)); have q : (putL cur o [y0, y1]).setIfInBounds (o + 2) y2 = putL cur o [y0, y1, y2] := putL_set (by simp; omega) y2; rw [setRow_setRow, q] at this; exact this,
 by have := store_at (P := P) (j := o + 3) (setRow_heap w g cur (putL cur o [y0, y1, y2]) e (0, 0) h) (by rw [putL_size (by simp; omega)]; omega) (h1 y3 (by simp)); have q : (putL cur o [y0, y1, y2]).setIfInBounds (o + 3) y3 = putL cur o [y0, y1, y2, y3] := putL_set (by simp; omega) y3; rw [setRow_setRow, q] at this; exact this,
 by have := store_at (P := P) (j := o + 4) (setRow_heap w g cur (putL cur o [y0, y1, y2, y3]) e (0, 0) h) (by rw [putL_size (by simp; omega)]; omega) (h1 y4 (by simp)); have q : (putL cur o [y0, y1, y2, y3]).setIfInBounds (o + 4) y4 = putL cur o [y0, y1, y2, y3, y4] := putL_set (by simp; omega) y4; rw [setRow_setRow, q] at this; exact this⟩
theorem row7 {w : World} {b o : Nat} {y0 y1 y2 y3 y4 y5 y6 : Value} (h : ∀ i, i < 7 → w.cell? ⟨b, o + i, none⟩ = [y0, y1, y2, y3, y4, y5, y6][i]?) : w.cell? ⟨b, o, none⟩ = some y0 ∧ w.cell? ⟨b, o + 1, none⟩ = some y1 ∧ w.cell? ⟨b, o + 2, none⟩ = some y2 ∧ w.cell? ⟨b, o + 3, none⟩ = some y3 ∧ w.cell? ⟨b, o + 4, none⟩ = some y4 ∧ w.cell? ⟨b, o + 5, none⟩ = some y5 ∧ w.cell? ⟨b, o + 6, none⟩ = some y6 :=
 ⟨h 0 (by decide), h 1 (by decide), h 2 (by decide), h 3 (by decide), h 4 (by decide), h 5 (by decide), h 6 (by decide)⟩
theorem fill7 {P : Program} {w : World} {g o : Nat} {e : TypeId} {cur : Array Value} {y0 y1 y2 y3 y4 y5 y6 : Value} (h : w.heap[g]? = some (.cells cur e (0, 0))) (hs : o + 7 ≤ cur.size) (h1 : ∀ v ∈ [y0, y1, y2, y3, y4, y5, y6], v.oneCell' = true) : (store ⟨g, o, none⟩ y0).run P w = .ok () (w.setRow g (putL cur o [y0])) ∧ (store ⟨g, o + 1, none⟩ y1).run P (w.setRow g (putL cur o [y0])) = .ok () (w.setRow g (putL cur o [y0, y1])) ∧ (store ⟨g, o + 2, none⟩ y2).run P (w.setRow g (putL cur o [y0, y1])) = .ok () (w.setRow g (putL cur o [y0, y1, y2])) ∧ (store ⟨g, o + 3, none⟩ y3).run P (w.setRow g (putL cur o [y0, y1, y2])) = .ok () (w.setRow g (putL cur o [y0, y1, y2, y3])) ∧ (store ⟨g, o + 4, none⟩ y4).run P (w.setRow g (putL cur o [y0, y1, y2, y3])) = .ok () (w.setRow g (putL cur o [y0, y1, y2, y3, y4])) ∧ (store ⟨g, o + 5, none⟩ y5).run P (w.setRow g (putL cur o [y0, y1, y2, y3, y4])) = .ok () (w.setRow g (putL cur o [y0, y1, y2, y3, y4, y5])) ∧ (store ⟨g, o + 6, none⟩ y6).run P (w.setRow g (putL cur o [y0, y1, y2, y3, y4, y5])) = .ok () (w.setRow g (putL cur o [y0, y1, y2, y3, y4, y5, y6])) :=
 ⟨by have := store_at (P := P) (j := o) h (by omega) (h1 y0 (by simp)); rw [putL_one (by omega)] at this; exact this,
 by have := store_at (P := P) (j := o + 1) (setRow_heap w g cur (putL cur o [y0]) e (0, 0) h) (by rw [putL_size (by simp; omega)]; omega) (h1 y1 (by simp)); have q : (putL cur o [y0]).setIfInBounds (o + 1) y1 = putL cur o [y0, y1] := putL_set (by simp; omega) y1; rw [setRow_setRow, q] at this; exact this,
 by have := store_at (P := P) (j := o + 2) (setRow_heap w g cur (putL cur o [y0, y1]) e (0, 0) h) (by rw [putL_size (by simp; omega)]; omega) (h1 y2 (by simp)); have q : (putL cur o [y0, y1]).setIfInBounds (o + 2) y2 = putL cur o [y0, y1, y2] := putL_set (by simp; omega) y2; rw [setRow_setRow, q] at this; exact this,
 by have := store_at (P := P) (j := o + 3) (setRow_heap w g cur (putL cur o [y0, y1, y2]) e (0, 0) h) (by rw [putL_size (by simp; omega)]; omega) (h1 y3 (by simp)); have q : (putL cur o [y0, y1, y2]).setIfInBounds (o + 3) y3 = putL cur o [y0, y1, y2, y3] := putL_set (by simp; omega) y3; rw [setRow_setRow, q] at this; exact this,
 by have := store_at (P := P) (j := o + 4) (setRow_heap w g cur (putL cur o [y0, y1, y2, y3]) e (0, 0) h) (by rw [putL_size (by simp; omega)]; omega) (h1 y4 (by simp)); have q : (putL cur o [y0, y1, y2, y3]).setIfInBounds (o + 4) y4 = putL cur o [y0, y1, y2, y3, y4] := putL_set (by simp; omega) y4; rw [setRow_setRow, q] at this; exact this,
 by have := store_at (P := P) (j := o + 5) (setRow_heap w g cur (putL cur o [y0, y1, y2, y3, y4]) e (0, 0) h) (by rw [putL_size (by simp; omega)]; omega) (h1 y5 (by simp)); have q : (putL cur o [y0, y1, y2, y3, y4]).setIfInBounds (o + 5) y5 = putL cur o [y0, y1, y2, y3, y4, y5] := putL_set (by simp; omega) y5; rw [setRow_setRow, q] at this; exact this,
 by have := store_at (P := P) (j := o + 6) (setRow_heap w g cur (putL cur o [y0, y1, y2, y3, y4, y5]) e (0, 0) h) (by rw [putL_size (by simp; omega)]; omega) (h1 y6 (by simp)); have q : (putL cur o [y0, y1, y2, y3, y4, y5]).setIfInBounds (o + 6) y6 = putL cur o [y0, y1, y2, y3, y4, y5, y6] := putL_set (by simp; omega) y6; rw [setRow_setRow, q] at this; exact this⟩
theorem row10 {w : World} {b o : Nat} {y0 y1 y2 y3 y4 y5 y6 y7 y8 y9 : Value} (h : ∀ i, i < 10 → w.cell? ⟨b, o + i, none⟩ = [y0, y1, y2, y3, y4, y5, y6, y7, y8, y9][i]?) : w.cell? ⟨b, o, none⟩ = some y0 ∧ w.cell? ⟨b, o + 1, none⟩ = some y1 ∧ w.cell? ⟨b, o + 2, none⟩ = some y2 ∧ w.cell? ⟨b, o + 3, none⟩ = some y3 ∧ w.cell? ⟨b, o + 4, none⟩ = some y4 ∧ w.cell? ⟨b, o + 5, none⟩ = some y5 ∧ w.cell? ⟨b, o + 6, none⟩ = some y6 ∧ w.cell? ⟨b, o + 7, none⟩ = some y7 ∧ w.cell? ⟨b, o + 8, none⟩ = some y8 ∧ w.cell? ⟨b, o + 9, none⟩ = some y9 :=
 ⟨h 0 (by decide), h 1 (by decide), h 2 (by decide), h 3 (by decide), h 4 (by decide), h 5 (by decide), h 6 (by decide), h 7 (by decide), h 8 (by decide), h 9 (by decide)⟩
theorem fill10 {P : Program} {w : World} {g o : Nat} {e : TypeId} {cur : Array Value} {y0 y1 y2 y3 y4 y5 y6 y7 y8 y9 : Value} (h : w.heap[g]? = some (.cells cur e (0, 0))) (hs : o + 10 ≤ cur.size) (h1 : ∀ v ∈ [y0, y1, y2, y3, y4, y5, y6, y7, y8, y9], v.oneCell' = true) : (store ⟨g, o, none⟩ y0).run P w = .ok () (w.setRow g (putL cur o [y0])) ∧ (store ⟨g, o + 1, none⟩ y1).run P (w.setRow g (putL cur o [y0])) = .ok () (w.setRow g (putL cur o [y0, y1])) ∧ (store ⟨g, o + 2, none⟩ y2).run P (w.setRow g (putL cur o [y0, y1])) = .ok () (w.setRow g (putL cur o [y0, y1, y2])) ∧ (store ⟨g, o + 3, none⟩ y3).run P (w.setRow g (putL cur o [y0, y1, y2])) = .ok () (w.setRow g (putL cur o [y0, y1, y2, y3])) ∧ (store ⟨g, o + 4, none⟩ y4).run P (w.setRow g (putL cur o [y0, y1, y2, y3])) = .ok () (w.setRow g (putL cur o [y0, y1, y2, y3, y4])) ∧ (store ⟨g, o + 5, none⟩ y5).run P (w.setRow g (putL cur o [y0, y1, y2, y3, y4])) = .ok () (w.setRow g (putL cur o [y0, y1, y2, y3, y4, y5])) ∧ (store ⟨g, o + 6, none⟩ y6).run P (w.setRow g (putL cur o [y0, y1, y2, y3, y4, y5])) = .ok () (w.setRow g (putL cur o [y0, y1, y2, y3, y4, y5, y6])) ∧ (store ⟨g, o + 7, none⟩ y7).run P (w.setRow g (putL cur o [y0, y1, y2, y3, y4, y5, y6])) = .ok () (w.setRow g (putL cur o [y0, y1, y2, y3, y4, y5, y6, y7])) ∧ (store ⟨g, o + 8, none⟩ y8).run P (w.setRow g (putL cur o [y0, y1, y2, y3, y4, y5, y6, y7])) = .ok () (w.setRow g (putL cur o [y0, y1, y2, y3, y4, y5, y6, y7, y8])) ∧ (store ⟨g, o + 9, none⟩ y9).run P (w.setRow g (putL cur o [y0, y1, y2, y3, y4, y5, y6, y7, y8])) = .ok () (w.setRow g (putL cur o [y0, y1, y2, y3, y4, y5, y6, y7, y8, y9])) :=
 ⟨by have := store_at (P := P) (j := o) h (by omega) (h1 y0 (by simp)); rw [putL_one (by omega)] at this; exact this,
 by have := store_at (P := P) (j := o + 1) (setRow_heap w g cur (putL cur o [y0]) e (0, 0) h) (by rw [putL_size (by simp; omega)]; omega) (h1 y1 (by simp)); have q : (putL cur o [y0]).setIfInBounds (o + 1) y1 = putL cur o [y0, y1] := putL_set (by simp; omega) y1; rw [setRow_setRow, q] at this; exact this,
 by have := store_at (P := P) (j := o + 2) (setRow_heap w g cur (putL cur o [y0, y1]) e (0, 0) h) (by rw [putL_size (by simp; omega)]; omega) (h1 y2 (by simp)); have q : (putL cur o [y0, y1]).setIfInBounds (o + 2) y2 = putL cur o [y0, y1, y2] := putL_set (by simp; omega) y2; rw [setRow_setRow, q] at this; exact this,
 by have := store_at (P := P) (j := o + 3) (setRow_heap w g cur (putL cur o [y0, y1, y2]) e (0, 0) h) (by rw [putL_size (by simp; omega)]; omega) (h1 y3 (by simp)); have q : (putL cur o [y0, y1, y2]).setIfInBounds (o + 3) y3 = putL cur o [y0, y1, y2, y3] := putL_set (by simp; omega) y3; rw [setRow_setRow, q] at this; exact this,
 by have := store_at (P := P) (j := o + 4) (setRow_heap w g cur (putL cur o [y0, y1, y2, y3]) e (0, 0) h) (by rw [putL_size (by simp; omega)]; omega) (h1 y4 (by simp)); have q : (putL cur o [y0, y1, y2, y3]).setIfInBounds (o + 4) y4 = putL cur o [y0, y1, y2, y3, y4] := putL_set (by simp; omega) y4; rw [setRow_setRow, q] at this; exact this,
 by have := store_at (P := P) (j := o + 5) (setRow_heap w g cur (putL cur o [y0, y1, y2, y3, y4]) e (0, 0) h) (by rw [putL_size (by simp; omega)]; omega) (h1 y5 (by simp)); have q : (putL cur o [y0, y1, y2, y3, y4]).setIfInBounds (o + 5) y5 = putL cur o [y0, y1, y2, y3, y4, y5] := putL_set (by simp; omega) y5; rw [setRow_setRow, q] at this; exact this,
 by have := store_at (P := P) (j := o + 6) (setRow_heap w g cur (putL cur o [y0, y1, y2, y3, y4, y5]) e (0, 0) h) (by rw [putL_size (by simp; omega)]; omega) (h1 y6 (by simp)); have q : (putL cur o [y0, y1, y2, y3, y4, y5]).setIfInBounds (o + 6) y6 = putL cur o [y0, y1, y2, y3, y4, y5, y6] := putL_set (by simp; omega) y6; rw [setRow_setRow, q] at this; exact this,
 by have := store_at (P := P) (j := o + 7) (setRow_heap w g cur (putL cur o [y0, y1, y2, y3, y4, y5, y6]) e (0, 0) h) (by rw [putL_size (by simp; omega)]; omega) (h1 y7 (by simp)); have q : (putL cur o [y0, y1, y2, y3, y4, y5, y6]).setIfInBounds (o + 7) y7 = putL cur o [y0, y1, y2, y3, y4, y5, y6, y7] := putL_set (by simp; omega) y7; rw [setRow_setRow, q] at this; exact this,
 by have := store_at (P := P) (j := o + 8) (setRow_heap w g cur (putL cur o [y0, y1, y2, y3, y4, y5, y6, y7]) e (0, 0) h) (by rw [putL_size (by simp; omega)]; omega) (h1 y8 (by simp)); have q : (putL cur o [y0, y1, y2, y3, y4, y5, y6, y7]).setIfInBounds (o + 8) y8 = putL cur o [y0, y1, y2, y3, y4, y5, y6, y7, y8] := putL_set (by simp; omega) y8; rw [setRow_setRow, q] at this; exact this,
 by have := store_at (P := P) (j := o + 9) (setRow_heap w g cur (putL cur o [y0, y1, y2, y3, y4, y5, y6, y7, y8]) e (0, 0) h) (by rw [putL_size (by simp; omega)]; omega) (h1 y9 (by simp)); have q : (putL cur o [y0, y1, y2, y3, y4, y5, y6, y7, y8]).setIfInBounds (o + 9) y9 = putL cur o [y0, y1, y2, y3, y4, y5, y6, y7, y8, y9] := putL_set (by simp; omega) y9; rw [setRow_setRow, q] at this; exact this⟩
end
section
variable {w0 w : World} {l : List Item} {α β : Type} {A : Ty α} {B : Ty β} {LA : A.Law} {LB : B.Law}
theorem St.turnHead {i i' : Item} (h : St w0 (i :: l) w) (hF : ∀ b, i'.F b → i.F b) (hp : i.φ w → i'.φ w) : St w0 (i' :: l) w :=
 h.set 0 rfl i' hF (Turn.refl _ _) (hp (h.get 0 rfl))
/-- A number ahead. -/
theorem St.intp {F : Nat → Prop} {c : List Value} {x : β} (h : St w0 (iT LB F c x :: l) w) (a : Int) : St w0 (iT (tPair_law tInt_law LB) F (.int .i64 a :: c) (a, x) :: l) w :=
 h.turnHead (i' := iT (tPair_law tInt_law LB) F (.int .i64 a :: c) (a, x)) (fun _ q => q) (fun q => ⟨[.int .i64 a], c, fun _ => False, F, rfl, rfl, q, fun _ k => k.elim, fun _ k => k, fun _ k => k.elim⟩)
/-- Plain data behind. -/
theorem St.pval {F : Nat → Prop} {c d : List Value} {x : α} {y : β} (h : St w0 (iT LA F c x :: l) w) (LB : B.Law) (o : B.O w (fun _ => False) d y) : St w0 (iT (tPair_law LA LB) F (c ++ d) (x, y) :: l) w :=
 h.turnHead (i' := iT (tPair_law LA LB) F (c ++ d) (x, y)) (fun _ q => q) (fun q => ⟨c, d, F, fun _ => False, rfl, q, o, fun _ k => k, fun _ k => k.elim, fun _ _ k => k⟩)
/-- Two that lie apart make a pair. -/
theorem St.cat {F1 F2 : Nat → Prop} {c1 c2 : List Value} {x : α} {y : β} (h : St w0 (iT LB F2 c2 y :: iT LA F1 c1 x :: l) w) : ∃ F, St w0 (iT (tPair_law LA LB) F (c1 ++ c2) (x, y) :: l) w := by
 have h1 := h.gT 0 rfl
 have h2 := h.gT 1 rfl
 have hd := h.s.apart 1 rfl 0 rfl (by decide)
 refine ⟨fun b => F1 b ∨ F2 b, h.d, ⟨⟨c1, c2, F1, F2, rfl, h2, h1, fun _ k => Or.inl k, fun _ k => Or.inr k, hd⟩, fun b hb => ⟨?_, fun j hj => ?_⟩, h.s.2.2.2.2⟩, fun j hj b hb => ?_⟩
 ·
  rcases hb with q | q
  ·
   exact h.s.lt (iT LA F1 c1 x) (by simp) b q
  ·
   exact h.s.lt (iT LB F2 c2 y) (by simp) b q
 ·
  rcases hb with q | q
  ·
   exact (h.s.2.2.2.1 b q).2 j hj
  ·
   exact (h.s.2.1 b q).2 j (by simp [hj])
 ·
  rcases List.mem_cons.1 hj with rfl | hm
  ·
   rcases hb with q | q
   ·
    exact h.lo (iT LA F1 c1 x) (by simp) b q
   ·
    exact h.lo (iT LB F2 c2 y) (by simp) b q
  ·
   exact h.lo j (by simp [hm]) b hb
theorem St.outC {α : Type} {T : Ty α} {L : T.Law} {F : Nat → Prop} {c : List Value} {x : α} (h : St w0 (iT L F c x :: l) w) : T.O w (since w0) c x := L.mono (h.gT 0 rfl) (fun b hb => h.lo (iT L F c x) (by simp) b hb)
theorem St.pushTE {e : TypeId} {T : Ty α} {w' : World} (L : T.Law) (L2 : (tSl e T).Law) (h : St w0 l w) (c : Below w.heap.size w w') {G : Nat → Prop} {v : Value} {xs : List α} (o : SlO e T w' G v xs) (hG : ∀ b, G b → w.heap.size ≤ b) : ∃ F, St w0 (iT L2 F [v] xs :: l) w' := h.pushE L2 c ⟨v, rfl, o⟩ hG
end
theorem setCell_box {W : World} {b : Nat} {c : Array Value} {t : TypeId} (h : W.heap[b]? = some (.cells c t (0, 0))) (j : Nat) (v : Value) : W.setCell ⟨b, j, none⟩ v = W.setRow b (c.setIfInBounds j v) := setCell_eq_setRow W b j c t (0, 0) v h
theorem cell_ex {W : World} {b k : Nat} {c : Array Value} {t : TypeId} {f : Nat × Nat} (h : W.heap[b]? = some (.cells c t f)) (hk : k < c.size) : ∃ u, W.cell? ⟨b, k, none⟩ = some u := ⟨c[k], by simp [World.cell?, h, hk]⟩
theorem one_app {a b : List Value} (h : ∀ v ∈ a, v.oneCell' = true) (k : ∀ v ∈ b, v.oneCell' = true) : ∀ v ∈ a ++ b, v.oneCell' = true := fun v hv => (List.mem_append.1 hv).elim (h v) (k v)
theorem o_int {w : World} (a : Int) : tInt.O w (fun _ => False) [.int .i64 a] a := rfl
theorem o_pair {α β : Type} {A : Ty α} {B : Ty β} {w : World} {c d : List Value} {x : α} {y : β} (h : A.O w (fun _ => False) c x) (k : B.O w (fun _ => False) d y) : (tPair A B).O w (fun _ => False) (c ++ d) (x, y) :=
 ⟨c, d, _, _, rfl, h, k, fun _ q => q, fun _ q => q, fun _ _ q => q⟩
theorem tIntES_one : tIntES.One := fun {w cs x} h v hv => by
 obtain ⟨u, rfl, h⟩ := h
 obtain ⟨a, c, rfl⟩ := slR_len h
 simp at hv; subst hv; rfl
theorem szKS_IntS {v : Value} {xs : _} {k0 : Int} {w : World} (h : SlR tInt w v xs) (hk : k0 ≤ 1048576) (hp : 0 ≤ k0) (ho : tIntS.ok xs) :
  Calls Tryz.prog 50 #[v, .int .i64 k0] w fun e w' => e = .returned (.int .i64 (szR k0 (zL tInt xs))) ∧ Below w.heap.size w w' := by
 by_cases z : ((zL tInt xs : Nat) : Int) ≤ k0
 ·
  rw [szR_y z]; exact szIntS_Y _ _ _ _ h z hk
 ·
  rw [szR_n z]; exact szIntS_N _ _ _ _ h (by omega) hk hp ho
theorem toKS_IntS {v : Value} {xs : _} {w : World} (h : SlR tInt w v xs) (hs : zL tInt xs ≤ 1048576) : Calls Tryz.prog 57 #[v] w (FreshS 3 tInt w xs) := toIntS_S _ _ _ h hs
theorem eqKS_IntS {v u : Value} {xs : _} {w : World} (h : SlR tInt w v xs) (g : SlR tInt w u xs) (hs : zL tInt xs ≤ 1048576) :
  Calls Tryz.prog 65 #[v, u] w fun e w' => e = .returned (.bool true) ∧ Below w.heap.size w w' := eqIntS_S _ _ _ _ h g hs
theorem tVersion_one : tVersion.One := (tPair_one tInt_one (tPair_one (tSl_one _ _) (tPair_one tInt_one tInt_one)))
theorem tVersion_P {w : World} {cs : List Value} {x0 : _} {x1 : _} {x2 : _} {x3 : _} (h : tVersion.R w cs (x0, x1, x2, x3)) : ∃ v1, cs = [.int .i64 x0, v1, .int .i64 x2, .int .i64 x3] ∧ SlR tInt w v1 x1 := by
 obtain ⟨_, _, rfl, rfl, ⟨_, _, rfl, ⟨v1, rfl, h1⟩, ⟨_, _, rfl, rfl, rfl⟩⟩⟩ := h
 exact ⟨v1, rfl, h1⟩
theorem szVersion_eq {x0 : _} {x1 : _} {x2 : _} {x3 : _} : tVersion.sz (x0, x1, x2, x3) = zL tInt x1 := by
 simp only [tVersion, tPair_sz, tInt_sz, tSl_sz]; try omega
def leVersion (x : Int × List Int × Int × Int) : Prop := zL tInt x.2.1 ≤ 1048576
theorem leVersion_of {x : Int × List Int × Int × Int} (h : tVersion.sz x ≤ 1048576) : leVersion x := by
 obtain ⟨x0, x1, x2, x3⟩ := x
 rw [szVersion_eq] at h
 show zL tInt x1 ≤ _; omega
set_option maxHeartbeats 8000000 in
theorem szK_Version {cs : List Value} {x : _} {k0 : Int} {w : World} (h : tVersion.R w cs x) (hk : k0 ≤ 1048576) (hp : 0 ≤ k0) (ho : tVersion.ok x) :
  Calls Tryz.prog 235 #[.agg cs.toArray, .int .i64 k0] w fun e w' => e = .returned (.int .i64 (szR k0 (tVersion.sz x))) ∧ Below w.heap.size w w' := by
 obtain ⟨x0, x1, x2, x3⟩ := x
 obtain ⟨v1, rfl, h1⟩ := tVersion_P h
 rw [szVersion_eq]
 obtain ⟨o0, o1, o2, o3⟩ := ho
 have H1 := zh h1
 have O1 := zh o1
 clear h1
 clear o0 o1 o2 o3
 have SP := zh ((St.init w).box [.int .i64 x0, v1, .int .i64 x2, .int .i64 x3] 286)
 go_enter Tryz.func235, Tryz.ntmps235
 have ld := cell4 (SP.out.gB 0 rfl)
 go_wp2_with fail
 clear ld
 generalize (w.alloc (.cells #[.int .i64 x0, v1, .int .i64 x2, .int .i64 x3] 286)) = W0 at *
 refine (szKS_IntS (slR_below tInt_law H1.out SP.out.d) (k0 := k0) (by omega) (by omega) O1.out).mono ?_
 rintro e W1 ⟨rfl, c⟩
 replace SP := zh (SP.out.below c)
 clear c
 by_cases z0 : ((zL tInt x1 : Nat) : Int) ≤ k0
 rotate_left
 ·
  rw [szR_n z0]
  have HE := zh (szR_n (k := k0) (z := zL tInt x1) (by omega))
  clear z0
  go_wp2
  go_ret
  exact ⟨ty_ret HE.out.symm, SP.out.d⟩
 rw [szR_y z0]
 have n0 : ¬ k0 - ((zL tInt x1 : Nat) : Int) < 0 := by omega
 have HE : Hid (szR k0 (zL tInt x1) = k0 - ((zL tInt x1 : Nat) : Int)) := zh (by rw [szR_y (by omega)]; try omega)
 go_wp2
 go_ret
 exact ⟨ty_ret HE.out.symm, SP.out.d⟩
set_option maxHeartbeats 8000000 in
theorem eqK_Version {cs ds : List Value} {x : _} {w : World} (h : tVersion.R w cs x) (g : tVersion.R w ds x) (hs : leVersion x) :
  Calls Tryz.prog 244 #[.agg cs.toArray, .agg ds.toArray] w fun e w' => e = .returned (.bool true) ∧ Below w.heap.size w w' := by
 obtain ⟨x0, x1, x2, x3⟩ := x
 obtain ⟨v1, rfl, h1⟩ := tVersion_P h
 obtain ⟨v1', rfl, h1'⟩ := tVersion_P g
 have l1 := hs
 have H1 := zh h1; have G1 := zh h1'; have S1 := zh l1
 clear h1 h1'
 clear l1
 have e0 : (x0 != x0) = false := by simp
 have e2 : (x2 != x2) = false := by simp
 have e3 : (x3 != x3) = false := by simp
 have SP : Hid (St w [iB (w.heap.size + 1) [.int .i64 x0, v1', .int .i64 x2, .int .i64 x3] 212, iB w.heap.size [.int .i64 x0, v1, .int .i64 x2, .int .i64 x3] 212] ((w.alloc (.cells #[.int .i64 x0, v1, .int .i64 x2, .int .i64 x3] 212)).alloc (.cells #[.int .i64 x0, v1', .int .i64 x2, .int .i64 x3] 212))) := zh (by have := ((St.init w).box [.int .i64 x0, v1, .int .i64 x2, .int .i64 x3] 212).box [.int .i64 x0, v1', .int .i64 x2, .int .i64 x3] 212; simpa only [World.size_alloc] using this)
 go_enter Tryz.func244, Tryz.ntmps244
 have ld := cell4 (SP.out.gB 1 rfl)
 have lc := cell4 (SP.out.gB 0 rfl)
 go_wp2_with fail
 clear ld lc
 generalize ((w.alloc (.cells #[.int .i64 x0, v1, .int .i64 x2, .int .i64 x3] 212)).alloc (.cells #[.int .i64 x0, v1', .int .i64 x2, .int .i64 x3] 212)) = W0 at *
 refine (eqKS_IntS (slR_below tInt_law H1.out SP.out.d) (slR_below tInt_law G1.out SP.out.d) S1.out).mono ?_
 rintro e W1 ⟨rfl, c⟩
 replace SP := zh (SP.out.below c)
 clear c
 have ld := cell4 (SP.out.gB 1 rfl)
 have lc := cell4 (SP.out.gB 0 rfl)
 go_wp2
 go_ret
 exact ⟨rfl, SP.out.d⟩
set_option maxHeartbeats 8000000 in
theorem toK_Version {cs : List Value} {x : _} {w : World} (h : tVersion.R w cs x) (hs : tVersion.sz x ≤ 1048576) :
  Calls Tryz.prog 236 #[.agg cs.toArray] w (FreshT tVersion (fun cs => .agg cs.toArray) w x) := by
 obtain ⟨x0, x1, x2, x3⟩ := x
 obtain ⟨v1, rfl, h1⟩ := tVersion_P h
 rw [szVersion_eq] at hs
 have H1 := zh h1; have S1 := zh (show zL tInt x1 ≤ 1048576 by omega)
 clear hs h1
 have SP : Hid (St w [iB (w.heap.size + 1 + 1) [.int .i64 0, .slice none 0 0, .int .i64 0, .int .i64 0] 212, iB (w.heap.size + 1) [.int .i64 0, .slice none 0 0, .int .i64 0, .int .i64 0] 212, iB w.heap.size [.int .i64 x0, v1, .int .i64 x2, .int .i64 x3] 286] (((w.alloc (.cells #[.int .i64 x0, v1, .int .i64 x2, .int .i64 x3] 286)).alloc (.cells #[.int .i64 0, .slice none 0 0, .int .i64 0, .int .i64 0] 212)).alloc (.cells #[.int .i64 0, .slice none 0 0, .int .i64 0, .int .i64 0] 212))) := zh (by have := (((St.init w).box [.int .i64 x0, v1, .int .i64 x2, .int .i64 x3] 286).box [.int .i64 0, .slice none 0 0, .int .i64 0, .int .i64 0] 212).box [.int .i64 0, .slice none 0 0, .int .i64 0, .int .i64 0] 212; simpa only [World.size_alloc] using this)
 go_enter Tryz.func236, Tryz.ntmps236
 go_upto_region 2 with fail
 generalize (((w.alloc (.cells #[.int .i64 x0, v1, .int .i64 x2, .int .i64 x3] 286)).alloc (.cells #[.int .i64 0, .slice none 0 0, .int .i64 0, .int .i64 0] 212)).alloc (.cells #[.int .i64 0, .slice none 0 0, .int .i64 0, .int .i64 0] 212)) = W0 at *
 have ld := cell4 (SP.out.gB 2 rfl)
 have le := cell4 (SP.out.gB 0 rfl)
 have fz := froz4 (SP.out.gB 0 rfl)
 go_upto_region 3 with fail
 clear ld le fz
 have e := setCell_box (SP.out.gB 0 rfl) 0 (.int .i64 x0)
 simp only [List.setIfInBounds_toArray, List.set_cons_succ, List.set_cons_zero] at e
 rw [e]
 clear e
 replace SP := zh (SP.out.store 0 rfl [.int .i64 x0, .slice none 0 0, .int .i64 0, .int .i64 0])
 generalize W0.setRow (w.heap.size + 1 + 1) #[.int .i64 x0, .slice none 0 0, .int .i64 0, .int .i64 0] = Y0 at *
 have ld := cell4 (SP.out.gB 2 rfl)
 go_wp2_with fail
 clear ld
 refine (toKS_IntS (slR_below tInt_law H1.out SP.out.d) S1.out).mono ?_
 rintro e V1 ⟨g1, rfl, o, c⟩
 obtain ⟨ga1, gc1, rfl⟩ := slO_len o
 obtain ⟨F1, sp⟩ := SP.out.pushTE tInt_law tIntS_law c o (fun b h => h)
 replace SP := zh sp
 clear sp o c
 have le := cell4 (SP.out.gB 1 rfl)
 have fz := froz4 (SP.out.gB 1 rfl)
 go_upto_region 4 with fail
 clear le fz
 have e := setCell_box (SP.out.gB 1 rfl) 1 (.slice ga1 x1.length gc1)
 simp only [List.setIfInBounds_toArray, List.set_cons_succ, List.set_cons_zero] at e
 rw [e]
 clear e
 replace SP := zh (SP.out.store 1 rfl [.int .i64 x0, .slice ga1 x1.length gc1, .int .i64 0, .int .i64 0])
 generalize V1.setRow (w.heap.size + 1 + 1) #[.int .i64 x0, .slice ga1 x1.length gc1, .int .i64 0, .int .i64 0] = Y1 at *
 have ld := cell4 (SP.out.gB 3 rfl)
 have le := cell4 (SP.out.gB 1 rfl)
 have fz := froz4 (SP.out.gB 1 rfl)
 go_upto_region 5 with fail
 clear ld le fz
 have e := setCell_box (SP.out.gB 1 rfl) 2 (.int .i64 x2)
 simp only [List.setIfInBounds_toArray, List.set_cons_succ, List.set_cons_zero] at e
 rw [e]
 clear e
 replace SP := zh (SP.out.store 1 rfl [.int .i64 x0, .slice ga1 x1.length gc1, .int .i64 x2, .int .i64 0])
 generalize Y1.setRow (w.heap.size + 1 + 1) #[.int .i64 x0, .slice ga1 x1.length gc1, .int .i64 x2, .int .i64 0] = Y2 at *
 have ld := cell4 (SP.out.gB 3 rfl)
 have le := cell4 (SP.out.gB 1 rfl)
 have fz := froz4 (SP.out.gB 1 rfl)
 go_upto_region 6 with fail
 clear ld le fz
 have e := setCell_box (SP.out.gB 1 rfl) 3 (.int .i64 x3)
 simp only [List.setIfInBounds_toArray, List.set_cons_succ, List.set_cons_zero] at e
 rw [e]
 clear e
 replace SP := zh (SP.out.store 1 rfl [.int .i64 x0, .slice ga1 x1.length gc1, .int .i64 x2, .int .i64 x3])
 generalize Y2.setRow (w.heap.size + 1 + 1) #[.int .i64 x0, .slice ga1 x1.length gc1, .int .i64 x2, .int .i64 x3] = Y3 at *
 generalize hu0 : Value.int .i64 x0 = u0 at SP
 have on0 : ∀ v ∈ [u0], v.oneCell' = true := by rw [← hu0]; simp [Value.oneCell']
 have HU0 := zh hu0
 clear hu0
 generalize hu1 : Value.slice ga1 x1.length gc1 = u1 at SP
 have on1 : ∀ v ∈ [u1], v.oneCell' = true := by rw [← hu1]; simp [Value.oneCell']
 have HU1 := zh hu1
 clear hu1
 generalize hu2 : Value.int .i64 x2 = u2 at SP
 have on2 : ∀ v ∈ [u2], v.oneCell' = true := by rw [← hu2]; simp [Value.oneCell']
 have HU2 := zh hu2
 clear hu2
 generalize hu3 : Value.int .i64 x3 = u3 at SP
 have on3 : ∀ v ∈ [u3], v.oneCell' = true := by rw [← hu3]; simp [Value.oneCell']
 have HU3 := zh hu3
 clear hu3
 have hone := (one_app on0 (one_app on1 (one_app on2 on3)))
 clear on0 on1 on2 on3
 have ld := cell4 (SP.out.gB 1 rfl)
 have st := rst4 (P := Tryz.prog) (SP.out.gB 2 rfl) hone
 go_wp2
 clear ld st hone
 replace SP := zh (SP.out.store 2 rfl [u0, u1, u2, u3])
 generalize Y3.setRow (w.heap.size + 1) #[u0, u1, u2, u3] = YY at *
 have ld := cell4 (SP.out.gB 2 rfl)
 have J := SP.out.sub [0] (by decide)
 refine bodyPost_ret (v := .agg #[u0, u1, u2, u3]) (by simp [results, Tryz.f236, go_sem, ld]) rfl ?_
 replace J := J.pval (tPair_law tInt_law tInt_law) (o_pair (o_int x2) (o_int x3))
 replace J := J.intp x0
 obtain rfl := HU0.out
 obtain rfl := HU1.out
 obtain rfl := HU2.out
 obtain rfl := HU3.out
 exact ⟨_, rfl, J.outC, SP.out.d⟩
set_option maxHeartbeats 8000000 in
theorem szKS_VersionS {v : Value} {xs : _} {k0 : Int} {w : World} (h : SlR tVersion w v xs) (hk : k0 ≤ 1048576) (hp : 0 ≤ k0) (ho : tVersionS.ok xs) :
  Calls Tryz.prog 182 #[v, .int .i64 k0] w fun e w' => e = .returned (.int .i64 (szR k0 (zL tVersion xs))) ∧ Below w.heap.size w w' := by
 have H := zh h
 have OX := zh ho.2
 have hn := ho.1
 obtain ⟨a, cap, rfl⟩ := slR_len h
 clear h ho
 by_cases h1 : k0 < (xs.length : Int)
 ·
  have hneg : k0 - (xs.length : Int) < 0 := by omega
  have HE := zh (szR_n (k := k0) (z := zL tVersion xs) (by have := zTo_le (T := tVersion) (xs := xs) (Nat.zero_le _); rw [zTo_zero] at this; omega))
  go_enter Tryz.func182, Tryz.ntmps182
  go_wp2
  go_ret
  exact ⟨ty_ret HE.out.symm, Below.refl _ _⟩
 ·
  go_enter Tryz.func182, Tryz.ntmps182
  have hneg : ¬ k0 - (xs.length : Int) < 0 := by omega
  go_wp2
  clear hneg
  go_loopw [1, 5] (fun l i wr => ∃ k : Nat, k ≤ xs.length ∧ i = .int .i64 k ∧ l = .int .i64 (k0 - (zTo tVersion xs k : Int)) ∧ (zTo tVersion xs k : Int) ≤ k0 ∧ Below w.heap.size w wr) (fun _ i _ => xs.length - (intOf i).toNat)
  case atStart => exact ⟨0, Nat.zero_le _, rfl, by rw [zTo_zero], by rw [zTo_zero]; omega, Below.refl _ _⟩
  case round =>
   obtain ⟨k, hk', rfl, rfl, hle, hbel⟩ := hrel
   by_cases hlt : k < xs.length
   ·
    have HST := zh (zTo_step (T := tVersion) hlt)
    have HLE := zh (zTo_le (T := tVersion) (xs := xs) (k := k + 1) (by omega))
    have HX := zh (OX.out k hlt)
    have i1 : (0 : Int) ≤ (k : Int) := by omega
    have i2 : (k : Int) < (xs.length : Int) := by omega
    obtain ⟨b, off, cap', cs, hv, hbl, hcs, hR⟩ := slR_at (slR_below tVersion_law H.out hbel) hlt
    simp only [Value.slice.injEq] at hv
    obtain ⟨rfl, _, rfl⟩ := hv
    generalize xs.getD k tVersion.d = x at *
    obtain ⟨y0, y1, y2, y3, rfl⟩ := len4 (tVersion_law.len hR)
    have p := row4 (o := off + k * 4) hcs
    have HR := zh hR
    clear hcs hR
    go_wp2_with fail
    refine (szK_Version (k0 := k0 - (zTo tVersion xs k : Int)) (tVersion_law.below HR.out (Below.refl _ _)) (by omega) (by omega) HX.out).mono ?_
    rintro e w1 ⟨rfl, b1⟩
    have b2 := hbel.trans (b1.mono hbel.size)
    by_cases hz : ((tVersion.sz x : Nat) : Int) ≤ k0 - (zTo tVersion xs k : Int)
    ·
     rw [szR_y hz]
     have hneg : ¬ k0 - (zTo tVersion xs k : Int) - ((tVersion.sz x : Nat) : Int) < 0 := by omega
     have HZ := zh hz
     clear hz
     go_wp2
     go_roundw
     case rel => exact ⟨k + 1, by omega, by go_num, by rw [HST.out]; go_num, by rw [HST.out]; have := HZ.out; omega, b2⟩
     case measure => simp [intOf]; omega
    ·
     rw [szR_n hz]
     have HE := zh (szR_n (k := k0) (z := zL tVersion xs) (by have := HST.out; have := HLE.out; omega))
     clear hz
     go_wp2
     go_ret
     exact ⟨ty_ret HE.out.symm, b2⟩
   ·
    obtain rfl : k = xs.length := by omega
    have HE := zh (szR_y (k := k0) (z := zL tVersion xs) hle)
    go_wp2
    go_ret
    exact ⟨ty_ret HE.out.symm, hbel⟩
theorem Tryz.kinfo_VersionS : (Tryz.prog.info? 212).map (fun i => (i.zero, i.size)) = some (some (.agg #[.int .i64 0, .slice none 0 0, .int .i64 0, .int .i64 0]), 4) := by kernel_rfl
theorem Tryz.kbytes_VersionS : ((Tryz.prog.info? 212).map (fun i => decide (i.bytes ≤ 512))) = some true := by kernel_rfl
set_option maxHeartbeats 8000000 in
theorem toKS_VersionS {v : Value} {xs : _} {w : World} (h : SlR tVersion w v xs) (hs : zL tVersion xs ≤ 1048576) :
  Calls Tryz.prog 191 #[v] w (FreshS 212 tVersion w xs) := by
 obtain ⟨i0, hi, hz0, hz1⟩ : ∃ i0, Tryz.prog.info? 212 = some i0 ∧ i0.zero = some (.agg #[.int .i64 0, .slice none 0 0, .int .i64 0, .int .i64 0]) ∧ i0.size = 4 := by
  have h0 := Tryz.kinfo_VersionS
  cases q : Tryz.prog.info? 212 with
  | none => rw [q] at h0; simp at h0
  | some i => rw [q] at h0; simp only [Option.map_some, Option.some.injEq, Prod.mk.injEq] at h0; exact ⟨i, rfl, h0.1, h0.2⟩
 have hz2 : i0.bytes ≤ 512 := by
  have h0 := Tryz.kbytes_VersionS
  rw [hi] at h0
  simpa using h0
 have HI := zh hi; have HZ0 := zh hz0; have HZ1 := zh hz1; have HZ2 := zh hz2
 clear hi hz0 hz1 hz2
 have H := zh h
 have hlen := zL_len hs
 have HS := zh hs
 obtain ⟨a, cap, rfl⟩ := slR_len h
 clear h hs
 go_enter Tryz.func191, Tryz.ntmps191
 go_wp2_with (at_make; refine wpList_make_full _ rfl (.tmp 6) (.tmp 6) 213 rfl w.heap.size 212 i0 (.agg #[.int .i64 0, .slice none 0 0, .int .i64 0, .int .i64 0]) 4 Tryz.underlying213 HI.out HZ0.out HZ1.out _ _ _ _ xs.length rfl rfl rfl rfl (by have h9 := Nat.mul_le_mul HZ2.out hlen; have h8 := Nat.mul_le_mul hlen HZ2.out; omega) (by unfold maxLen; omega) (Nat.le_refl _) ?_)
 intro w1 hown0 hg0
 have hown1 : SlO 212 tVersion w1 (since w) (.slice (some ⟨w.heap.size, 0, none⟩) xs.length xs.length) (List.replicate xs.length tVersion.d) := slO_made (z := #[.int .i64 0, .slice none 0 0, .int .i64 0, .int .i64 0]) tVersion_law rfl (tVersion_zero w1) (Nat.le_refl _) hown0
 have hbel1 := (Below.refl w.heap.size w).grown hg0 (Nat.le_refl _) (fun k hk => by cases hk)
 clear hown0 hg0
 go_wp2
 go_loopw [4] (fun i wr => ∃ k : Nat, k ≤ xs.length ∧ i = .int .i64 k ∧ SlO 212 tVersion wr (since w) (.slice (some ⟨w.heap.size, 0, none⟩) xs.length xs.length) (xs.take k ++ List.replicate (xs.length - k) tVersion.d) ∧ Below w.heap.size w wr) (fun i _ => xs.length - (intOf i).toNat)
 case atStart => exact ⟨0, Nat.zero_le _, rfl, by simpa using hown1, hbel1⟩
 case round =>
  obtain ⟨k, hk, rfl, hown, hbel⟩ := hrel
  by_cases hlt : k < xs.length
  ·
   have HSET := zh (cTo_step (d := tVersion.d) hlt)
   have HKL : k < (xs.take k ++ List.replicate (xs.length - k) tVersion.d).length := by rw [cTo_len hk]; exact hlt
   have i1 : (0 : Int) ≤ (k : Int) := by omega
   have i2 : (k : Int) < (xs.length : Int) := by omega
   have S1 := zh (zL_at HS.out hlt)
   obtain ⟨b, off, cap', cs, hv, hbl, hcs, hR⟩ := slR_at (slR_below tVersion_law H.out hbel) hlt
   simp only [Value.slice.injEq] at hv
   obtain ⟨rfl, _, rfl⟩ := hv
   obtain ⟨cur, hg, hsz, hput⟩ := slO_fill tVersion_law hown HKL
   have HG := zh hg; have HP := zh hput; have HB := zh hbel
   clear HKL hown1 hbel1 hg hput hown hbel
   generalize xs.getD k tVersion.d = x at *
   obtain ⟨y0, y1, y2, y3, rfl⟩ := len4 (tVersion_law.len hR)
   have p := row4 (o := off + k * 4) hcs
   have HR := zh hR
   clear hcs hR
   go_wp2_with fail
   refine (toK_Version HR.out S1.out).mono ?_
   rintro e w2 ⟨gs, rfl, ow, b2⟩
   obtain ⟨g0, g1, g2, g3, rfl⟩ := len4 (tVersion_law.len (tVersion_law.reads ow))
   have hgl := (Array.getElem?_eq_some_iff.1 HG.out).1
   have st := fill4 (P := Tryz.prog) (o := k * 4) ((b2.block _ hgl).trans HG.out) hsz (tVersion_one (tVersion_law.reads ow))
   have HST := zh (HP.out w2 _ _ _ b2 ow (fun b hb => ⟨Nat.le_trans HB.out.size hb, hb⟩))
   rw [HSET.out] at HST
   have B3 := zh (below_turn (HB.out.trans (b2.mono HB.out.size)) (turn_row (b := w.heap.size) (c := putL cur (k * 4) [g0, g1, g2, g3])) (fun b hb => by rw [hb]; exact Nat.le_refl _) (Nat.le_trans HB.out.size b2.size))
   clear hsz hgl b2 ow
   go_wp2
   go_roundw
   case rel => exact ⟨k + 1, by omega, by go_num, HST.out, B3.out⟩
   case measure => simp [intOf]; omega
  ·
   obtain rfl : k = xs.length := by omega
   have HE : Hid (xs.take xs.length ++ List.replicate (xs.length - xs.length) tVersion.d = xs) := zh (by simp)
   rw [HE.out] at hown
   go_wp2
   go_ret
   exact ⟨_, rfl, hown, hbel⟩
set_option maxHeartbeats 8000000 in
theorem eqKS_VersionS {v u : Value} {xs : _} {w : World} (h : SlR tVersion w v xs) (g : SlR tVersion w u xs) (hs : zL tVersion xs ≤ 1048576) :
  Calls Tryz.prog 204 #[v, u] w fun e w' => e = .returned (.bool true) ∧ Below w.heap.size w w' := by
 have H := zh h
 have G := zh g
 have HS := zh hs
 obtain ⟨a, cap, rfl⟩ := slR_len h
 obtain ⟨a2, cap2, rfl⟩ := slR_len g
 have hlen := zL_len hs
 clear h g hs
 go_enter Tryz.func204, Tryz.ntmps204
 go_wp2
 go_loopw [5] (fun i wr => ∃ k : Nat, k ≤ xs.length ∧ i = .int .i64 k ∧ Below w.heap.size w wr) (fun i _ => xs.length - (intOf i).toNat)
 case atStart => exact ⟨0, Nat.zero_le _, rfl, Below.refl _ _⟩
 case round =>
  obtain ⟨k, hk, rfl, hbel⟩ := hrel
  by_cases hlt : k < xs.length
  ·
   obtain ⟨b, off, cap', cs, hv, hbl, hcs, hR⟩ := slR_at (slR_below tVersion_law H.out hbel) hlt
   simp only [Value.slice.injEq] at hv
   obtain ⟨rfl, _, rfl⟩ := hv
   obtain ⟨b2, off2, cap2', ds, hv2, hbl2, hds, hQ⟩ := slR_at (slR_below tVersion_law G.out hbel) hlt
   simp only [Value.slice.injEq] at hv2
   obtain ⟨rfl, _, rfl⟩ := hv2
   have S1 := zh (zL_at HS.out hlt)
   have i1 : (0 : Int) ≤ (k : Int) := by omega
   have i2 : (k : Int) < (xs.length : Int) := by omega
   generalize xs.getD k tVersion.d = x at *
   obtain ⟨y0, y1, y2, y3, rfl⟩ := len4 (tVersion_law.len hR)
   obtain ⟨z0, z1, z2, z3, rfl⟩ := len4 (tVersion_law.len hQ)
   have p := row4 (o := off + k * 4) hcs; have q := row4 (o := off2 + k * 4) hds
   have HR := zh hR; have HQ := zh hQ; have HB := zh hbel
   clear hcs hds hR hQ hbel
   go_wp2
   go_region_with (first | (go_at_call 244; refine (eqK_Version (by exact tVersion_law.below HR.out ⟨rfl, rfl, rfl, Nat.le_refl _, fun _ _ => rfl⟩) (by exact tVersion_law.below HQ.out ⟨rfl, rfl, rfl, Nat.le_refl _, fun _ _ => rfl⟩) (leVersion_of S1.out)).mono ?_; rintro e w8 ⟨rfl, b9⟩; have b11 := zh (HB.out.trans (Below.mono (B := wr.heap.size) ⟨b9.os, b9.tape, b9.output, b9.size, b9.block⟩ HB.out.size)); clear b9))
   all_goals
    go_wp2
    go_roundw
    case rel => exact ⟨k + 1, by omega, by go_num, b11.out⟩
    case measure => simp [intOf]; omega
  ·
   go_wp2
   go_ret
   exact ⟨rfl, hbel⟩
set_option maxHeartbeats 8000000 in
theorem szKS_VersionSS {v : Value} {xs : _} {k0 : Int} {w : World} (h : SlR tVersionS w v xs) (hk : k0 ≤ 1048576) (hp : 0 ≤ k0) (ho : tVersionSS.ok xs) :
  Calls Tryz.prog 117 #[v, .int .i64 k0] w fun e w' => e = .returned (.int .i64 (szR k0 (zL tVersionS xs))) ∧ Below w.heap.size w w' := by
 have H := zh h
 have OX := zh ho.2
 have hn := ho.1
 obtain ⟨a, cap, rfl⟩ := slR_len h
 clear h ho
 by_cases h1 : k0 < (xs.length : Int)
 ·
  have hneg : k0 - (xs.length : Int) < 0 := by omega
  have HE := zh (szR_n (k := k0) (z := zL tVersionS xs) (by have := zTo_le (T := tVersionS) (xs := xs) (Nat.zero_le _); rw [zTo_zero] at this; omega))
  go_enter Tryz.func117, Tryz.ntmps117
  go_wp2
  go_ret
  exact ⟨ty_ret HE.out.symm, Below.refl _ _⟩
 ·
  go_enter Tryz.func117, Tryz.ntmps117
  have hneg : ¬ k0 - (xs.length : Int) < 0 := by omega
  go_wp2
  clear hneg
  go_loopw [1, 5] (fun l i wr => ∃ k : Nat, k ≤ xs.length ∧ i = .int .i64 k ∧ l = .int .i64 (k0 - (zTo tVersionS xs k : Int)) ∧ (zTo tVersionS xs k : Int) ≤ k0 ∧ Below w.heap.size w wr) (fun _ i _ => xs.length - (intOf i).toNat)
  case atStart => exact ⟨0, Nat.zero_le _, rfl, by rw [zTo_zero], by rw [zTo_zero]; omega, Below.refl _ _⟩
  case round =>
   obtain ⟨k, hk', rfl, rfl, hle, hbel⟩ := hrel
   by_cases hlt : k < xs.length
   ·
    have HST := zh (show zTo tVersionS xs (k + 1) = zTo tVersionS xs k + zL tVersion (xs.getD k tVersionS.d) from zTo_step hlt)
    have HLE := zh (zTo_le (T := tVersionS) (xs := xs) (k := k + 1) (by omega))
    have HX := zh (OX.out k hlt)
    have i1 : (0 : Int) ≤ (k : Int) := by omega
    have i2 : (k : Int) < (xs.length : Int) := by omega
    obtain ⟨b, off, cap', cs, hv, hbl, hcs, hR⟩ := slR_at (slR_below tVersionS_law H.out hbel) hlt
    simp only [Value.slice.injEq] at hv
    obtain ⟨rfl, _, rfl⟩ := hv
    generalize xs.getD k tVersionS.d = x at *
    obtain ⟨y0, rfl, hR⟩ := hR
    have p : wr.cell? ⟨b, off + k, none⟩ = some y0 := by have q := hcs 0 Nat.one_pos; rw [show tVersionS.n = 1 from rfl, Nat.mul_one, Nat.add_zero] at q; exact q
    have HR := zh hR
    clear hcs hR
    go_wp2_with fail
    refine (szKS_VersionS (k0 := k0 - (zTo tVersionS xs k : Int)) HR.out (by omega) (by omega) HX.out).mono ?_
    rintro e w1 ⟨rfl, b1⟩
    have b2 := hbel.trans (b1.mono hbel.size)
    by_cases hz : ((zL tVersion x : Nat) : Int) ≤ k0 - (zTo tVersionS xs k : Int)
    ·
     rw [szR_y hz]
     have hneg : ¬ k0 - (zTo tVersionS xs k : Int) - ((zL tVersion x : Nat) : Int) < 0 := by omega
     have HZ := zh hz
     clear hz
     go_wp2
     go_roundw
     case rel => exact ⟨k + 1, by omega, by go_num, by rw [HST.out]; go_num, by rw [HST.out]; have := HZ.out; omega, b2⟩
     case measure => simp [intOf]; omega
    ·
     rw [szR_n hz]
     have HE := zh (szR_n (k := k0) (z := zL tVersionS xs) (by have := HST.out; have := HLE.out; omega))
     clear hz
     go_wp2
     go_ret
     exact ⟨ty_ret HE.out.symm, b2⟩
   ·
    obtain rfl : k = xs.length := by omega
    have HE := zh (szR_y (k := k0) (z := zL tVersionS xs) hle)
    go_wp2
    go_ret
    exact ⟨ty_ret HE.out.symm, hbel⟩
theorem Tryz.kinfo_VersionSS : (Tryz.prog.info? 213).map (fun i => (i.zero, i.size)) = some (some (.slice none 0 0), 1) := by kernel_rfl
theorem Tryz.kbytes_VersionSS : ((Tryz.prog.info? 213).map (fun i => decide (i.bytes ≤ 512))) = some true := by kernel_rfl
set_option maxHeartbeats 8000000 in
theorem toKS_VersionSS {v : Value} {xs : _} {w : World} (h : SlR tVersionS w v xs) (hs : zL tVersionS xs ≤ 1048576) :
  Calls Tryz.prog 126 #[v] w (FreshS 213 tVersionS w xs) := by
 obtain ⟨i0, hi, hz0, hz1⟩ : ∃ i0, Tryz.prog.info? 213 = some i0 ∧ i0.zero = some (.slice none 0 0) ∧ i0.size = 1 := by
  have h0 := Tryz.kinfo_VersionSS
  cases q : Tryz.prog.info? 213 with
  | none => rw [q] at h0; simp at h0
  | some i => rw [q] at h0; simp only [Option.map_some, Option.some.injEq, Prod.mk.injEq] at h0; exact ⟨i, rfl, h0.1, h0.2⟩
 have hz2 : i0.bytes ≤ 512 := by
  have h0 := Tryz.kbytes_VersionSS
  rw [hi] at h0
  simpa using h0
 have HI := zh hi; have HZ0 := zh hz0; have HZ1 := zh hz1; have HZ2 := zh hz2
 clear hi hz0 hz1 hz2
 have H := zh h
 have hlen := zL_len hs
 have HS := zh hs
 obtain ⟨a, cap, rfl⟩ := slR_len h
 clear h hs
 go_enter Tryz.func126, Tryz.ntmps126
 go_wp2_with (at_make; refine wpList_make_full _ rfl (.tmp 6) (.tmp 6) 33 rfl w.heap.size 213 i0 (.slice none 0 0) 1 Tryz.underlying33 HI.out HZ0.out HZ1.out _ _ _ _ xs.length rfl rfl rfl rfl (by have h9 := Nat.mul_le_mul HZ2.out hlen; have h8 := Nat.mul_le_mul hlen HZ2.out; omega) (by unfold maxLen; omega) (Nat.le_refl _) ?_)
 intro w1 hown0 hg0
 have hown1 : SlO 213 tVersionS w1 (since w) (.slice (some ⟨w.heap.size, 0, none⟩) xs.length xs.length) (List.replicate xs.length tVersionS.d) := slO_made (z := #[.slice none 0 0]) tVersionS_law rfl (⟨_, rfl, slO_nil _ _ _ _⟩) (Nat.le_refl _) (by rw [show xs.length * tVersionS.n = xs.length from Nat.mul_one _]; exact hown0)
 have hbel1 := (Below.refl w.heap.size w).grown hg0 (Nat.le_refl _) (fun k hk => by cases hk)
 clear hown0 hg0
 go_wp2
 go_loopw [4] (fun i wr => ∃ k : Nat, k ≤ xs.length ∧ i = .int .i64 k ∧ SlO 213 tVersionS wr (since w) (.slice (some ⟨w.heap.size, 0, none⟩) xs.length xs.length) (xs.take k ++ List.replicate (xs.length - k) tVersionS.d) ∧ Below w.heap.size w wr) (fun i _ => xs.length - (intOf i).toNat)
 case atStart => exact ⟨0, Nat.zero_le _, rfl, by simpa using hown1, hbel1⟩
 case round =>
  obtain ⟨k, hk, rfl, hown, hbel⟩ := hrel
  by_cases hlt : k < xs.length
  ·
   have HSET := zh (cTo_step (d := tVersionS.d) hlt)
   have HKL : k < (xs.take k ++ List.replicate (xs.length - k) tVersionS.d).length := by rw [cTo_len hk]; exact hlt
   have i1 : (0 : Int) ≤ (k : Int) := by omega
   have i2 : (k : Int) < (xs.length : Int) := by omega
   have S1 := zh (zL_at HS.out hlt)
   obtain ⟨b, off, cap', cs, hv, hbl, hcs, hR⟩ := slR_at (slR_below tVersionS_law H.out hbel) hlt
   simp only [Value.slice.injEq] at hv
   obtain ⟨rfl, _, rfl⟩ := hv
   obtain ⟨cur, hg, hsz, hput⟩ := slO_fill tVersionS_law hown HKL
   have HG := zh hg; have HP := zh hput; have HB := zh hbel
   clear HKL hown1 hbel1 hg hput hown hbel
   generalize xs.getD k tVersionS.d = x at *
   obtain ⟨y0, rfl, hR⟩ := hR
   have p : wr.cell? ⟨b, off + k, none⟩ = some y0 := by have q := hcs 0 Nat.one_pos; rw [show tVersionS.n = 1 from rfl, Nat.mul_one, Nat.add_zero] at q; exact q
   have HR := zh hR
   clear hcs hR
   go_wp2_with fail
   refine (toKS_VersionS HR.out S1.out).mono ?_
   rintro e w2 ⟨g0, rfl, ow, b2⟩
   obtain ⟨ga, gc, rfl⟩ := slO_len ow
   replace ow : tVersionS.O w2 (since wr) [.slice ga x.length gc] x := ⟨_, rfl, ow⟩
   have hgl := (Array.getElem?_eq_some_iff.1 HG.out).1
   have hsk : k < cur.size := by rw [show tVersionS.n = 1 from rfl] at hsz; omega
   have HK := zh hsk; have HG2 := zh ((b2.block _ hgl).trans HG.out)
   obtain ⟨u, hu⟩ := cell_ex HG2.out hsk
   have fz := frozen_of_row w2 _ k _ _ HG2.out
   have HST := zh (HP.out w2 _ _ _ b2 ow (fun b hb => ⟨Nat.le_trans HB.out.size hb, hb⟩))
   rw [HSET.out, show tVersionS.n = 1 from rfl, Nat.mul_one] at HST
   have B3 := zh (below_turn (HB.out.trans (b2.mono HB.out.size)) (turn_row (b := w.heap.size) (c := putL cur (k) [.slice ga x.length gc])) (fun b hb => by rw [hb]; exact Nat.le_refl _) (Nat.le_trans HB.out.size b2.size))
   clear hsz hgl b2 ow hsk
   go_upto_region 4 with fail
   clear hu fz
   rw [setCell_box HG2.out k _, putL_one HK.out]
   go_wp2
   go_roundw
   case rel => exact ⟨k + 1, by omega, by go_num, HST.out, B3.out⟩
   case measure => simp [intOf]; omega
  ·
   obtain rfl : k = xs.length := by omega
   have HE : Hid (xs.take xs.length ++ List.replicate (xs.length - xs.length) tVersionS.d = xs) := zh (by simp)
   rw [HE.out] at hown
   go_wp2
   go_ret
   exact ⟨_, rfl, hown, hbel⟩
set_option maxHeartbeats 8000000 in
theorem eqKS_VersionSS {v u : Value} {xs : _} {w : World} (h : SlR tVersionS w v xs) (g : SlR tVersionS w u xs) (hs : zL tVersionS xs ≤ 1048576) :
  Calls Tryz.prog 138 #[v, u] w fun e w' => e = .returned (.bool true) ∧ Below w.heap.size w w' := by
 have H := zh h
 have G := zh g
 have HS := zh hs
 obtain ⟨a, cap, rfl⟩ := slR_len h
 obtain ⟨a2, cap2, rfl⟩ := slR_len g
 have hlen := zL_len hs
 clear h g hs
 go_enter Tryz.func138, Tryz.ntmps138
 go_wp2
 go_loopw [5] (fun i wr => ∃ k : Nat, k ≤ xs.length ∧ i = .int .i64 k ∧ Below w.heap.size w wr) (fun i _ => xs.length - (intOf i).toNat)
 case atStart => exact ⟨0, Nat.zero_le _, rfl, Below.refl _ _⟩
 case round =>
  obtain ⟨k, hk, rfl, hbel⟩ := hrel
  by_cases hlt : k < xs.length
  ·
   obtain ⟨b, off, cap', cs, hv, hbl, hcs, hR⟩ := slR_at (slR_below tVersionS_law H.out hbel) hlt
   simp only [Value.slice.injEq] at hv
   obtain ⟨rfl, _, rfl⟩ := hv
   obtain ⟨b2, off2, cap2', ds, hv2, hbl2, hds, hQ⟩ := slR_at (slR_below tVersionS_law G.out hbel) hlt
   simp only [Value.slice.injEq] at hv2
   obtain ⟨rfl, _, rfl⟩ := hv2
   have S1 := zh (zL_at HS.out hlt)
   have i1 : (0 : Int) ≤ (k : Int) := by omega
   have i2 : (k : Int) < (xs.length : Int) := by omega
   generalize xs.getD k tVersionS.d = x at *
   obtain ⟨y0, rfl, hR⟩ := hR
   obtain ⟨z0, rfl, hQ⟩ := hQ
   have p : wr.cell? ⟨b, off + k, none⟩ = some y0 := by have q := hcs 0 Nat.one_pos; rw [show tVersionS.n = 1 from rfl, Nat.mul_one, Nat.add_zero] at q; exact q
   have q : wr.cell? ⟨b2, off2 + k, none⟩ = some z0 := by have q := hds 0 Nat.one_pos; rw [show tVersionS.n = 1 from rfl, Nat.mul_one, Nat.add_zero] at q; exact q
   have HR := zh hR; have HQ := zh hQ; have HB := zh hbel
   clear hcs hds hR hQ hbel
   go_wp2
   go_region_with (first | (go_at_call 204; refine (eqKS_VersionS (by exact slR_below tVersion_law HR.out ⟨rfl, rfl, rfl, Nat.le_refl _, fun _ _ => rfl⟩) (by exact slR_below tVersion_law HQ.out ⟨rfl, rfl, rfl, Nat.le_refl _, fun _ _ => rfl⟩) S1.out).mono ?_; rintro e w8 ⟨rfl, b9⟩; have b11 := zh (HB.out.trans (Below.mono (B := wr.heap.size) ⟨b9.os, b9.tape, b9.output, b9.size, b9.block⟩ HB.out.size)); clear b9))
   all_goals
    go_wp2
    go_roundw
    case rel => exact ⟨k + 1, by omega, by go_num, b11.out⟩
    case measure => simp [intOf]; omega
  ·
   go_wp2
   go_ret
   exact ⟨rfl, hbel⟩
theorem tStore_one : tStore.One := (tPair_one (tSl_one _ _) tInt_one)
theorem tStore_P {w : World} {cs : List Value} {x0 : _} {x1 : _} (h : tStore.R w cs (x0, x1)) : ∃ v0, cs = [v0, .int .i64 x1] ∧ SlR tVersionS w v0 x0 := by
 obtain ⟨_, _, rfl, ⟨v0, rfl, h0⟩, rfl⟩ := h
 exact ⟨v0, rfl, h0⟩
theorem szStore_eq {x0 : _} {x1 : _} : tStore.sz (x0, x1) = zL tVersionS x0 := by
 simp only [tStore, tPair_sz, tInt_sz, tSl_sz]; try omega
def leStore (x : List (List (Int × List Int × Int × Int)) × Int) : Prop := zL tVersionS x.1 ≤ 1048576
theorem leStore_of {x : List (List (Int × List Int × Int × Int)) × Int} (h : tStore.sz x ≤ 1048576) : leStore x := by
 obtain ⟨x0, x1⟩ := x
 rw [szStore_eq] at h
 show zL tVersionS x0 ≤ _; omega
set_option maxHeartbeats 8000000 in
theorem szK_Store {cs : List Value} {x : _} {k0 : Int} {w : World} (h : tStore.R w cs x) (hk : k0 ≤ 1048576) (hp : 0 ≤ k0) (ho : tStore.ok x) :
  Calls Tryz.prog 49 #[.agg cs.toArray, .int .i64 k0] w fun e w' => e = .returned (.int .i64 (szR k0 (tStore.sz x))) ∧ Below w.heap.size w w' := by
 obtain ⟨x0, x1⟩ := x
 obtain ⟨v0, rfl, h0⟩ := tStore_P h
 rw [szStore_eq]
 obtain ⟨o0, o1⟩ := ho
 have H0 := zh h0
 have O0 := zh o0
 clear h0
 clear o0 o1
 have SP := zh ((St.init w).box [v0, .int .i64 x1] 24)
 go_enter Tryz.func49, Tryz.ntmps49
 have ld := cell2 (SP.out.gB 0 rfl)
 go_wp2_with fail
 clear ld
 generalize (w.alloc (.cells #[v0, .int .i64 x1] 24)) = W0 at *
 refine (szKS_VersionSS (slR_below tVersionS_law H0.out SP.out.d) (k0 := k0) (by omega) (by omega) O0.out).mono ?_
 rintro e W1 ⟨rfl, c⟩
 replace SP := zh (SP.out.below c)
 clear c
 by_cases z0 : ((zL tVersionS x0 : Nat) : Int) ≤ k0
 rotate_left
 ·
  rw [szR_n z0]
  have HE := zh (szR_n (k := k0) (z := zL tVersionS x0) (by omega))
  clear z0
  go_wp2
  go_ret
  exact ⟨ty_ret HE.out.symm, SP.out.d⟩
 rw [szR_y z0]
 have n0 : ¬ k0 - ((zL tVersionS x0 : Nat) : Int) < 0 := by omega
 have HE : Hid (szR k0 (zL tVersionS x0) = k0 - ((zL tVersionS x0 : Nat) : Int)) := zh (by rw [szR_y (by omega)]; try omega)
 go_wp2
 go_ret
 exact ⟨ty_ret HE.out.symm, SP.out.d⟩
set_option maxHeartbeats 8000000 in
theorem eqK_Store {cs ds : List Value} {x : _} {w : World} (h : tStore.R w cs x) (g : tStore.R w ds x) (hs : leStore x) :
  Calls Tryz.prog 64 #[.agg cs.toArray, .agg ds.toArray] w fun e w' => e = .returned (.bool true) ∧ Below w.heap.size w w' := by
 obtain ⟨x0, x1⟩ := x
 obtain ⟨v0, rfl, h0⟩ := tStore_P h
 obtain ⟨v0', rfl, h0'⟩ := tStore_P g
 have l0 := hs
 have H0 := zh h0; have G0 := zh h0'; have S0 := zh l0
 clear h0 h0'
 clear l0
 have e1 : (x1 != x1) = false := by simp
 have SP : Hid (St w [iB (w.heap.size + 1) [v0', .int .i64 x1] 35, iB w.heap.size [v0, .int .i64 x1] 35] ((w.alloc (.cells #[v0, .int .i64 x1] 35)).alloc (.cells #[v0', .int .i64 x1] 35))) := zh (by have := ((St.init w).box [v0, .int .i64 x1] 35).box [v0', .int .i64 x1] 35; simpa only [World.size_alloc] using this)
 go_enter Tryz.func64, Tryz.ntmps64
 have ld := cell2 (SP.out.gB 1 rfl)
 have lc := cell2 (SP.out.gB 0 rfl)
 go_wp2_with fail
 clear ld lc
 generalize ((w.alloc (.cells #[v0, .int .i64 x1] 35)).alloc (.cells #[v0', .int .i64 x1] 35)) = W0 at *
 refine (eqKS_VersionSS (slR_below tVersionS_law H0.out SP.out.d) (slR_below tVersionS_law G0.out SP.out.d) S0.out).mono ?_
 rintro e W1 ⟨rfl, c⟩
 replace SP := zh (SP.out.below c)
 clear c
 have ld := cell2 (SP.out.gB 1 rfl)
 have lc := cell2 (SP.out.gB 0 rfl)
 go_wp2
 go_ret
 exact ⟨rfl, SP.out.d⟩
set_option maxHeartbeats 8000000 in
theorem toK_Store {cs : List Value} {x : _} {w : World} (h : tStore.R w cs x) (hs : tStore.sz x ≤ 1048576) :
  Calls Tryz.prog 56 #[.agg cs.toArray] w (FreshT tStore (fun cs => .agg cs.toArray) w x) := by
 obtain ⟨x0, x1⟩ := x
 obtain ⟨v0, rfl, h0⟩ := tStore_P h
 rw [szStore_eq] at hs
 have H0 := zh h0; have S0 := zh (show zL tVersionS x0 ≤ 1048576 by omega)
 clear hs h0
 have SP : Hid (St w [iB (w.heap.size + 1 + 1) [.slice none 0 0, .int .i64 0] 35, iB (w.heap.size + 1) [.slice none 0 0, .int .i64 0] 35, iB w.heap.size [v0, .int .i64 x1] 24] (((w.alloc (.cells #[v0, .int .i64 x1] 24)).alloc (.cells #[.slice none 0 0, .int .i64 0] 35)).alloc (.cells #[.slice none 0 0, .int .i64 0] 35))) := zh (by have := (((St.init w).box [v0, .int .i64 x1] 24).box [.slice none 0 0, .int .i64 0] 35).box [.slice none 0 0, .int .i64 0] 35; simpa only [World.size_alloc] using this)
 go_enter Tryz.func56, Tryz.ntmps56
 go_upto_region 2 with fail
 generalize (((w.alloc (.cells #[v0, .int .i64 x1] 24)).alloc (.cells #[.slice none 0 0, .int .i64 0] 35)).alloc (.cells #[.slice none 0 0, .int .i64 0] 35)) = W0 at *
 have ld := cell2 (SP.out.gB 2 rfl)
 go_wp2_with fail
 clear ld
 refine (toKS_VersionSS (slR_below tVersionS_law H0.out SP.out.d) S0.out).mono ?_
 rintro e V0 ⟨g0, rfl, o, c⟩
 obtain ⟨ga0, gc0, rfl⟩ := slO_len o
 obtain ⟨F0, sp⟩ := SP.out.pushTE tVersionS_law tVersionSS_law c o (fun b h => h)
 replace SP := zh sp
 clear sp o c
 have le := cell2 (SP.out.gB 1 rfl)
 have fz := froz2 (SP.out.gB 1 rfl)
 go_upto_region 3 with fail
 clear le fz
 have e := setCell_box (SP.out.gB 1 rfl) 0 (.slice ga0 x0.length gc0)
 simp only [List.setIfInBounds_toArray, List.set_cons_succ, List.set_cons_zero] at e
 rw [e]
 clear e
 replace SP := zh (SP.out.store 1 rfl [.slice ga0 x0.length gc0, .int .i64 0])
 generalize V0.setRow (w.heap.size + 1 + 1) #[.slice ga0 x0.length gc0, .int .i64 0] = Y0 at *
 have ld := cell2 (SP.out.gB 3 rfl)
 have le := cell2 (SP.out.gB 1 rfl)
 have fz := froz2 (SP.out.gB 1 rfl)
 go_upto_region 4 with fail
 clear ld le fz
 have e := setCell_box (SP.out.gB 1 rfl) 1 (.int .i64 x1)
 simp only [List.setIfInBounds_toArray, List.set_cons_succ, List.set_cons_zero] at e
 rw [e]
 clear e
 replace SP := zh (SP.out.store 1 rfl [.slice ga0 x0.length gc0, .int .i64 x1])
 generalize Y0.setRow (w.heap.size + 1 + 1) #[.slice ga0 x0.length gc0, .int .i64 x1] = Y1 at *
 generalize hu0 : Value.slice ga0 x0.length gc0 = u0 at SP
 have on0 : ∀ v ∈ [u0], v.oneCell' = true := by rw [← hu0]; simp [Value.oneCell']
 have HU0 := zh hu0
 clear hu0
 generalize hu1 : Value.int .i64 x1 = u1 at SP
 have on1 : ∀ v ∈ [u1], v.oneCell' = true := by rw [← hu1]; simp [Value.oneCell']
 have HU1 := zh hu1
 clear hu1
 have hone := (one_app on0 on1)
 clear on0 on1
 have ld := cell2 (SP.out.gB 1 rfl)
 have st := rst2 (P := Tryz.prog) (SP.out.gB 2 rfl) hone
 go_wp2
 clear ld st hone
 replace SP := zh (SP.out.store 2 rfl [u0, u1])
 generalize Y1.setRow (w.heap.size + 1) #[u0, u1] = YY at *
 have ld := cell2 (SP.out.gB 2 rfl)
 have J := SP.out.sub [0] (by decide)
 refine bodyPost_ret (v := .agg #[u0, u1]) (by simp [results, Tryz.f56, go_sem, ld]) rfl ?_
 replace J := J.pval tInt_law (o_int x1)
 obtain rfl := HU0.out
 obtain rfl := HU1.out
 exact ⟨_, rfl, J.outC, SP.out.d⟩
theorem tCond_one : tCond.One := (tPair_one tInt_one (tPair_one tInt_one tInt_one))
theorem toK_Cond {cs : List Value} {x : _} {w : World} (h : tCond.R w cs x) : Calls Tryz.prog 141 #[.agg cs.toArray] w (FreshT tCond (fun cs => .agg cs.toArray) w x) := by
 obtain ⟨a0, a1, a2⟩ := x
 obtain rfl := tCond_R h
 exact toCond_T _ _ _ w
theorem eqK_Cond {cs ds : List Value} {x : _} {w : World} (h : tCond.R w cs x) (g : tCond.R w ds x) : Calls Tryz.prog 147 #[.agg cs.toArray, .agg ds.toArray] w fun e w' => e = .returned (.bool true) ∧ Below w.heap.size w w' := by
 obtain ⟨a0, a1, a2⟩ := x
 obtain rfl := tCond_R h
 obtain rfl := tCond_R g
 exact eqCond_T _ _ _ w
theorem szKS_CondS {v : Value} {xs : _} {k0 : Int} {w : World} (h : SlR tCond w v xs) (hk : k0 ≤ 1048576) (hp : 0 ≤ k0) (ho : tCondS.ok xs) :
  Calls Tryz.prog 73 #[v, .int .i64 k0] w fun e w' => e = .returned (.int .i64 (szR k0 (zL tCond xs))) ∧ Below w.heap.size w w' := by
 by_cases z : ((zL tCond xs : Nat) : Int) ≤ k0
 ·
  rw [szR_y z]; exact szCondS_Y _ _ _ _ h z hk
 ·
  rw [szR_n z]; exact szCondS_N _ _ _ _ h (by omega) hk hp ho
theorem Tryz.kinfo_CondS : (Tryz.prog.info? 177).map (fun i => (i.zero, i.size)) = some (some (.agg #[.int .i64 0, .int .i64 0, .int .i64 0]), 3) := by kernel_rfl
theorem Tryz.kbytes_CondS : ((Tryz.prog.info? 177).map (fun i => decide (i.bytes ≤ 512))) = some true := by kernel_rfl
set_option maxHeartbeats 8000000 in
theorem toKS_CondS {v : Value} {xs : _} {w : World} (h : SlR tCond w v xs) (hs : zL tCond xs ≤ 1048576) :
  Calls Tryz.prog 75 #[v] w (FreshS 177 tCond w xs) := by
 obtain ⟨i0, hi, hz0, hz1⟩ : ∃ i0, Tryz.prog.info? 177 = some i0 ∧ i0.zero = some (.agg #[.int .i64 0, .int .i64 0, .int .i64 0]) ∧ i0.size = 3 := by
  have h0 := Tryz.kinfo_CondS
  cases q : Tryz.prog.info? 177 with
  | none => rw [q] at h0; simp at h0
  | some i => rw [q] at h0; simp only [Option.map_some, Option.some.injEq, Prod.mk.injEq] at h0; exact ⟨i, rfl, h0.1, h0.2⟩
 have hz2 : i0.bytes ≤ 512 := by
  have h0 := Tryz.kbytes_CondS
  rw [hi] at h0
  simpa using h0
 have HI := zh hi; have HZ0 := zh hz0; have HZ1 := zh hz1; have HZ2 := zh hz2
 clear hi hz0 hz1 hz2
 have H := zh h
 have hlen := zL_len hs
 have HS := zh hs
 obtain ⟨a, cap, rfl⟩ := slR_len h
 clear h hs
 go_enter Tryz.func75, Tryz.ntmps75
 go_wp2_with (at_make; refine wpList_make_full _ rfl (.tmp 6) (.tmp 6) 51 rfl w.heap.size 177 i0 (.agg #[.int .i64 0, .int .i64 0, .int .i64 0]) 3 Tryz.underlying51 HI.out HZ0.out HZ1.out _ _ _ _ xs.length rfl rfl rfl rfl (by have h9 := Nat.mul_le_mul HZ2.out hlen; have h8 := Nat.mul_le_mul hlen HZ2.out; omega) (by unfold maxLen; omega) (Nat.le_refl _) ?_)
 intro w1 hown0 hg0
 have hown1 : SlO 177 tCond w1 (since w) (.slice (some ⟨w.heap.size, 0, none⟩) xs.length xs.length) (List.replicate xs.length tCond.d) := slO_made (z := #[.int .i64 0, .int .i64 0, .int .i64 0]) tCond_law rfl (tCond_zero w1) (Nat.le_refl _) hown0
 have hbel1 := (Below.refl w.heap.size w).grown hg0 (Nat.le_refl _) (fun k hk => by cases hk)
 clear hown0 hg0
 go_wp2
 go_loopw [4] (fun i wr => ∃ k : Nat, k ≤ xs.length ∧ i = .int .i64 k ∧ SlO 177 tCond wr (since w) (.slice (some ⟨w.heap.size, 0, none⟩) xs.length xs.length) (xs.take k ++ List.replicate (xs.length - k) tCond.d) ∧ Below w.heap.size w wr) (fun i _ => xs.length - (intOf i).toNat)
 case atStart => exact ⟨0, Nat.zero_le _, rfl, by simpa using hown1, hbel1⟩
 case round =>
  obtain ⟨k, hk, rfl, hown, hbel⟩ := hrel
  by_cases hlt : k < xs.length
  ·
   have HSET := zh (cTo_step (d := tCond.d) hlt)
   have HKL : k < (xs.take k ++ List.replicate (xs.length - k) tCond.d).length := by rw [cTo_len hk]; exact hlt
   have i1 : (0 : Int) ≤ (k : Int) := by omega
   have i2 : (k : Int) < (xs.length : Int) := by omega
   have S1 := zh (zL_at HS.out hlt)
   obtain ⟨b, off, cap', cs, hv, hbl, hcs, hR⟩ := slR_at (slR_below tCond_law H.out hbel) hlt
   simp only [Value.slice.injEq] at hv
   obtain ⟨rfl, _, rfl⟩ := hv
   obtain ⟨cur, hg, hsz, hput⟩ := slO_fill tCond_law hown HKL
   have HG := zh hg; have HP := zh hput; have HB := zh hbel
   clear HKL hown1 hbel1 hg hput hown hbel
   generalize xs.getD k tCond.d = x at *
   obtain ⟨y0, y1, y2, rfl⟩ := len3 (tCond_law.len hR)
   have p := row3 (o := off + k * 3) hcs
   have HR := zh hR
   clear hcs hR
   go_wp2_with fail
   refine (toK_Cond HR.out).mono ?_
   rintro e w2 ⟨gs, rfl, ow, b2⟩
   obtain ⟨g0, g1, g2, rfl⟩ := len3 (tCond_law.len (tCond_law.reads ow))
   have hgl := (Array.getElem?_eq_some_iff.1 HG.out).1
   have st := fill3 (P := Tryz.prog) (o := k * 3) ((b2.block _ hgl).trans HG.out) hsz (tCond_one (tCond_law.reads ow))
   have HST := zh (HP.out w2 _ _ _ b2 ow (fun b hb => ⟨Nat.le_trans HB.out.size hb, hb⟩))
   rw [HSET.out] at HST
   have B3 := zh (below_turn (HB.out.trans (b2.mono HB.out.size)) (turn_row (b := w.heap.size) (c := putL cur (k * 3) [g0, g1, g2])) (fun b hb => by rw [hb]; exact Nat.le_refl _) (Nat.le_trans HB.out.size b2.size))
   clear hsz hgl b2 ow
   go_wp2
   go_roundw
   case rel => exact ⟨k + 1, by omega, by go_num, HST.out, B3.out⟩
   case measure => simp [intOf]; omega
  ·
   obtain rfl : k = xs.length := by omega
   have HE : Hid (xs.take xs.length ++ List.replicate (xs.length - xs.length) tCond.d = xs) := zh (by simp)
   rw [HE.out] at hown
   go_wp2
   go_ret
   exact ⟨_, rfl, hown, hbel⟩
set_option maxHeartbeats 8000000 in
theorem eqKS_CondS {v u : Value} {xs : _} {w : World} (h : SlR tCond w v xs) (g : SlR tCond w u xs) (hs : zL tCond xs ≤ 1048576) :
  Calls Tryz.prog 78 #[v, u] w fun e w' => e = .returned (.bool true) ∧ Below w.heap.size w w' := by
 have H := zh h
 have G := zh g
 have HS := zh hs
 obtain ⟨a, cap, rfl⟩ := slR_len h
 obtain ⟨a2, cap2, rfl⟩ := slR_len g
 have hlen := zL_len hs
 clear h g hs
 go_enter Tryz.func78, Tryz.ntmps78
 go_wp2
 go_loopw [5] (fun i wr => ∃ k : Nat, k ≤ xs.length ∧ i = .int .i64 k ∧ Below w.heap.size w wr) (fun i _ => xs.length - (intOf i).toNat)
 case atStart => exact ⟨0, Nat.zero_le _, rfl, Below.refl _ _⟩
 case round =>
  obtain ⟨k, hk, rfl, hbel⟩ := hrel
  by_cases hlt : k < xs.length
  ·
   obtain ⟨b, off, cap', cs, hv, hbl, hcs, hR⟩ := slR_at (slR_below tCond_law H.out hbel) hlt
   simp only [Value.slice.injEq] at hv
   obtain ⟨rfl, _, rfl⟩ := hv
   obtain ⟨b2, off2, cap2', ds, hv2, hbl2, hds, hQ⟩ := slR_at (slR_below tCond_law G.out hbel) hlt
   simp only [Value.slice.injEq] at hv2
   obtain ⟨rfl, _, rfl⟩ := hv2
   have S1 := zh (zL_at HS.out hlt)
   have i1 : (0 : Int) ≤ (k : Int) := by omega
   have i2 : (k : Int) < (xs.length : Int) := by omega
   generalize xs.getD k tCond.d = x at *
   obtain ⟨y0, y1, y2, rfl⟩ := len3 (tCond_law.len hR)
   obtain ⟨z0, z1, z2, rfl⟩ := len3 (tCond_law.len hQ)
   have p := row3 (o := off + k * 3) hcs; have q := row3 (o := off2 + k * 3) hds
   have HR := zh hR; have HQ := zh hQ; have HB := zh hbel
   clear hcs hds hR hQ hbel
   go_wp2
   go_region_with (first | (go_at_call 147; refine (eqK_Cond (by exact tCond_law.below HR.out ⟨rfl, rfl, rfl, Nat.le_refl _, fun _ _ => rfl⟩) (by exact tCond_law.below HQ.out ⟨rfl, rfl, rfl, Nat.le_refl _, fun _ _ => rfl⟩)).mono ?_; rintro e w8 ⟨rfl, b9⟩; have b11 := zh (HB.out.trans (Below.mono (B := wr.heap.size) ⟨b9.os, b9.tape, b9.output, b9.size, b9.block⟩ HB.out.size)); clear b9))
   all_goals
    go_wp2
    go_roundw
    case rel => exact ⟨k + 1, by omega, by go_num, b11.out⟩
    case measure => simp [intOf]; omega
  ·
   go_wp2
   go_ret
   exact ⟨rfl, hbel⟩
theorem tQuery_one : tQuery.One := (tPair_one tInt_one (tPair_one tInt_one (tPair_one (tSl_one _ _) (tSl_one _ _))))
theorem tQuery_P {w : World} {cs : List Value} {x0 : _} {x1 : _} {x2 : _} {x3 : _} (h : tQuery.R w cs (x0, x1, x2, x3)) : ∃ v2 v3, cs = [.int .i64 x0, .int .i64 x1, v2, v3] ∧ SlR tCond w v2 x2 ∧ SlR tInt w v3 x3 := by
 obtain ⟨_, _, rfl, rfl, ⟨_, _, rfl, rfl, ⟨_, _, rfl, ⟨v2, rfl, h2⟩, ⟨v3, rfl, h3⟩⟩⟩⟩ := h
 exact ⟨v2, v3, rfl, h2, h3⟩
theorem szQuery_eq {x0 : _} {x1 : _} {x2 : _} {x3 : _} : tQuery.sz (x0, x1, x2, x3) = zL tCond x2 + zL tInt x3 := by
 simp only [tQuery, tPair_sz, tInt_sz, tSl_sz]; try omega
def leQuery (x : Int × Int × List (Int × Int × Int) × List Int) : Prop := zL tCond x.2.2.1 ≤ 1048576 ∧ zL tInt x.2.2.2 ≤ 1048576
theorem leQuery_of {x : Int × Int × List (Int × Int × Int) × List Int} (h : tQuery.sz x ≤ 1048576) : leQuery x := by
 obtain ⟨x0, x1, x2, x3⟩ := x
 rw [szQuery_eq] at h
 exact ⟨by show zL tCond x2 ≤ _; omega, by show zL tInt x3 ≤ _; omega⟩
set_option maxHeartbeats 8000000 in
theorem szK_Query {cs : List Value} {x : _} {k0 : Int} {w : World} (h : tQuery.R w cs x) (hk : k0 ≤ 1048576) (hp : 0 ≤ k0) (ho : tQuery.ok x) :
  Calls Tryz.prog 20 #[.agg cs.toArray, .int .i64 k0] w fun e w' => e = .returned (.int .i64 (szR k0 (tQuery.sz x))) ∧ Below w.heap.size w w' := by
 obtain ⟨x0, x1, x2, x3⟩ := x
 obtain ⟨v2, v3, rfl, h2, h3⟩ := tQuery_P h
 rw [szQuery_eq]
 obtain ⟨o0, o1, o2, o3⟩ := ho
 have H2 := zh h2
 have O2 := zh o2
 have H3 := zh h3
 have O3 := zh o3
 clear h2 h3
 clear o0 o1 o2 o3
 have SP := zh ((St.init w).box [.int .i64 x0, .int .i64 x1, v2, v3] 48)
 go_enter Tryz.func20, Tryz.ntmps20
 have ld := cell4 (SP.out.gB 0 rfl)
 go_wp2_with fail
 clear ld
 generalize (w.alloc (.cells #[.int .i64 x0, .int .i64 x1, v2, v3] 48)) = W0 at *
 refine (szKS_CondS (slR_below tCond_law H2.out SP.out.d) (k0 := k0) (by omega) (by omega) O2.out).mono ?_
 rintro e W1 ⟨rfl, c⟩
 replace SP := zh (SP.out.below c)
 clear c
 by_cases z0 : ((zL tCond x2 : Nat) : Int) ≤ k0
 rotate_left
 ·
  rw [szR_n z0]
  have HE := zh (szR_n (k := k0) (z := zL tCond x2 + zL tInt x3) (by omega))
  clear z0
  go_wp2
  go_ret
  exact ⟨ty_ret HE.out.symm, SP.out.d⟩
 rw [szR_y z0]
 have n0 : ¬ k0 - ((zL tCond x2 : Nat) : Int) < 0 := by omega
 have ld := cell4 (SP.out.gB 0 rfl)
 go_wp2_with fail
 clear ld
 refine (szKS_IntS (slR_below tInt_law H3.out SP.out.d) (k0 := k0 - ((zL tCond x2 : Nat) : Int)) (by omega) (by omega) O3.out).mono ?_
 rintro e W2 ⟨rfl, c⟩
 replace SP := zh (SP.out.below c)
 clear c
 by_cases z1 : ((zL tInt x3 : Nat) : Int) ≤ k0 - ((zL tCond x2 : Nat) : Int)
 rotate_left
 ·
  rw [szR_n z1]
  have HE := zh (szR_n (k := k0) (z := zL tCond x2 + zL tInt x3) (by omega))
  clear z0 z1
  go_wp2
  go_ret
  exact ⟨ty_ret HE.out.symm, SP.out.d⟩
 rw [szR_y z1]
 have n1 : ¬ k0 - ((zL tCond x2 : Nat) : Int) - ((zL tInt x3 : Nat) : Int) < 0 := by omega
 have HE : Hid (szR k0 (zL tCond x2 + zL tInt x3) = k0 - ((zL tCond x2 : Nat) : Int) - ((zL tInt x3 : Nat) : Int)) := zh (by rw [szR_y (by omega)]; try omega)
 go_wp2
 go_ret
 exact ⟨ty_ret HE.out.symm, SP.out.d⟩
set_option maxHeartbeats 8000000 in
theorem eqK_Query {cs ds : List Value} {x : _} {w : World} (h : tQuery.R w cs x) (g : tQuery.R w ds x) (hs : leQuery x) :
  Calls Tryz.prog 24 #[.agg cs.toArray, .agg ds.toArray] w fun e w' => e = .returned (.bool true) ∧ Below w.heap.size w w' := by
 obtain ⟨x0, x1, x2, x3⟩ := x
 obtain ⟨v2, v3, rfl, h2, h3⟩ := tQuery_P h
 obtain ⟨v2', v3', rfl, h2', h3'⟩ := tQuery_P g
 obtain ⟨l2, l3⟩ := hs
 have H2 := zh h2; have G2 := zh h2'; have S2 := zh l2
 have H3 := zh h3; have G3 := zh h3'; have S3 := zh l3
 clear h2 h2' h3 h3'
 clear l2 l3
 have e0 : (x0 != x0) = false := by simp
 have e1 : (x1 != x1) = false := by simp
 have SP : Hid (St w [iB (w.heap.size + 1) [.int .i64 x0, .int .i64 x1, v2', v3'] 53, iB w.heap.size [.int .i64 x0, .int .i64 x1, v2, v3] 53] ((w.alloc (.cells #[.int .i64 x0, .int .i64 x1, v2, v3] 53)).alloc (.cells #[.int .i64 x0, .int .i64 x1, v2', v3'] 53))) := zh (by have := ((St.init w).box [.int .i64 x0, .int .i64 x1, v2, v3] 53).box [.int .i64 x0, .int .i64 x1, v2', v3'] 53; simpa only [World.size_alloc] using this)
 go_enter Tryz.func24, Tryz.ntmps24
 have ld := cell4 (SP.out.gB 1 rfl)
 have lc := cell4 (SP.out.gB 0 rfl)
 go_wp2_with fail
 clear ld lc
 generalize ((w.alloc (.cells #[.int .i64 x0, .int .i64 x1, v2, v3] 53)).alloc (.cells #[.int .i64 x0, .int .i64 x1, v2', v3'] 53)) = W0 at *
 refine (eqKS_CondS (slR_below tCond_law H2.out SP.out.d) (slR_below tCond_law G2.out SP.out.d) S2.out).mono ?_
 rintro e W1 ⟨rfl, c⟩
 replace SP := zh (SP.out.below c)
 clear c
 have ld := cell4 (SP.out.gB 1 rfl)
 have lc := cell4 (SP.out.gB 0 rfl)
 go_wp2_with fail
 clear ld lc
 refine (eqKS_IntS (slR_below tInt_law H3.out SP.out.d) (slR_below tInt_law G3.out SP.out.d) S3.out).mono ?_
 rintro e W2 ⟨rfl, c⟩
 replace SP := zh (SP.out.below c)
 clear c
 have ld := cell4 (SP.out.gB 1 rfl)
 have lc := cell4 (SP.out.gB 0 rfl)
 go_wp2
 go_ret
 exact ⟨rfl, SP.out.d⟩
set_option maxHeartbeats 8000000 in
theorem toK_Query {cs : List Value} {x : _} {w : World} (h : tQuery.R w cs x) (hs : tQuery.sz x ≤ 1048576) :
  Calls Tryz.prog 22 #[.agg cs.toArray] w (FreshT tQuery (fun cs => .agg cs.toArray) w x) := by
 obtain ⟨x0, x1, x2, x3⟩ := x
 obtain ⟨v2, v3, rfl, h2, h3⟩ := tQuery_P h
 rw [szQuery_eq] at hs
 have H2 := zh h2; have S2 := zh (show zL tCond x2 ≤ 1048576 by omega)
 have H3 := zh h3; have S3 := zh (show zL tInt x3 ≤ 1048576 by omega)
 clear hs h2 h3
 have SP : Hid (St w [iB (w.heap.size + 1 + 1) [.int .i64 0, .int .i64 0, .slice none 0 0, .slice none 0 0] 53, iB (w.heap.size + 1) [.int .i64 0, .int .i64 0, .slice none 0 0, .slice none 0 0] 53, iB w.heap.size [.int .i64 x0, .int .i64 x1, v2, v3] 48] (((w.alloc (.cells #[.int .i64 x0, .int .i64 x1, v2, v3] 48)).alloc (.cells #[.int .i64 0, .int .i64 0, .slice none 0 0, .slice none 0 0] 53)).alloc (.cells #[.int .i64 0, .int .i64 0, .slice none 0 0, .slice none 0 0] 53))) := zh (by have := (((St.init w).box [.int .i64 x0, .int .i64 x1, v2, v3] 48).box [.int .i64 0, .int .i64 0, .slice none 0 0, .slice none 0 0] 53).box [.int .i64 0, .int .i64 0, .slice none 0 0, .slice none 0 0] 53; simpa only [World.size_alloc] using this)
 go_enter Tryz.func22, Tryz.ntmps22
 go_upto_region 2 with fail
 generalize (((w.alloc (.cells #[.int .i64 x0, .int .i64 x1, v2, v3] 48)).alloc (.cells #[.int .i64 0, .int .i64 0, .slice none 0 0, .slice none 0 0] 53)).alloc (.cells #[.int .i64 0, .int .i64 0, .slice none 0 0, .slice none 0 0] 53)) = W0 at *
 have ld := cell4 (SP.out.gB 2 rfl)
 have le := cell4 (SP.out.gB 0 rfl)
 have fz := froz4 (SP.out.gB 0 rfl)
 go_upto_region 3 with fail
 clear ld le fz
 have e := setCell_box (SP.out.gB 0 rfl) 0 (.int .i64 x0)
 simp only [List.setIfInBounds_toArray, List.set_cons_succ, List.set_cons_zero] at e
 rw [e]
 clear e
 replace SP := zh (SP.out.store 0 rfl [.int .i64 x0, .int .i64 0, .slice none 0 0, .slice none 0 0])
 generalize W0.setRow (w.heap.size + 1 + 1) #[.int .i64 x0, .int .i64 0, .slice none 0 0, .slice none 0 0] = Y0 at *
 have ld := cell4 (SP.out.gB 2 rfl)
 have le := cell4 (SP.out.gB 0 rfl)
 have fz := froz4 (SP.out.gB 0 rfl)
 go_upto_region 4 with fail
 clear ld le fz
 have e := setCell_box (SP.out.gB 0 rfl) 1 (.int .i64 x1)
 simp only [List.setIfInBounds_toArray, List.set_cons_succ, List.set_cons_zero] at e
 rw [e]
 clear e
 replace SP := zh (SP.out.store 0 rfl [.int .i64 x0, .int .i64 x1, .slice none 0 0, .slice none 0 0])
 generalize Y0.setRow (w.heap.size + 1 + 1) #[.int .i64 x0, .int .i64 x1, .slice none 0 0, .slice none 0 0] = Y1 at *
 have ld := cell4 (SP.out.gB 2 rfl)
 go_wp2_with fail
 clear ld
 refine (toKS_CondS (slR_below tCond_law H2.out SP.out.d) S2.out).mono ?_
 rintro e V2 ⟨g2, rfl, o, c⟩
 obtain ⟨ga2, gc2, rfl⟩ := slO_len o
 obtain ⟨F2, sp⟩ := SP.out.pushTE tCond_law tCondS_law c o (fun b h => h)
 replace SP := zh sp
 clear sp o c
 have le := cell4 (SP.out.gB 1 rfl)
 have fz := froz4 (SP.out.gB 1 rfl)
 go_upto_region 5 with fail
 clear le fz
 have e := setCell_box (SP.out.gB 1 rfl) 2 (.slice ga2 x2.length gc2)
 simp only [List.setIfInBounds_toArray, List.set_cons_succ, List.set_cons_zero] at e
 rw [e]
 clear e
 replace SP := zh (SP.out.store 1 rfl [.int .i64 x0, .int .i64 x1, .slice ga2 x2.length gc2, .slice none 0 0])
 generalize V2.setRow (w.heap.size + 1 + 1) #[.int .i64 x0, .int .i64 x1, .slice ga2 x2.length gc2, .slice none 0 0] = Y2 at *
 have ld := cell4 (SP.out.gB 3 rfl)
 go_wp2_with fail
 clear ld
 refine (toKS_IntS (slR_below tInt_law H3.out SP.out.d) S3.out).mono ?_
 rintro e V3 ⟨g3, rfl, o, c⟩
 obtain ⟨ga3, gc3, rfl⟩ := slO_len o
 obtain ⟨F3, sp⟩ := SP.out.pushTE tInt_law tIntS_law c o (fun b h => h)
 replace SP := zh sp
 clear sp o c
 have le := cell4 (SP.out.gB 2 rfl)
 have fz := froz4 (SP.out.gB 2 rfl)
 go_upto_region 6 with fail
 clear le fz
 have e := setCell_box (SP.out.gB 2 rfl) 3 (.slice ga3 x3.length gc3)
 simp only [List.setIfInBounds_toArray, List.set_cons_succ, List.set_cons_zero] at e
 rw [e]
 clear e
 replace SP := zh (SP.out.store 2 rfl [.int .i64 x0, .int .i64 x1, .slice ga2 x2.length gc2, .slice ga3 x3.length gc3])
 generalize V3.setRow (w.heap.size + 1 + 1) #[.int .i64 x0, .int .i64 x1, .slice ga2 x2.length gc2, .slice ga3 x3.length gc3] = Y3 at *
 generalize hu0 : Value.int .i64 x0 = u0 at SP
 have on0 : ∀ v ∈ [u0], v.oneCell' = true := by rw [← hu0]; simp [Value.oneCell']
 have HU0 := zh hu0
 clear hu0
 generalize hu1 : Value.int .i64 x1 = u1 at SP
 have on1 : ∀ v ∈ [u1], v.oneCell' = true := by rw [← hu1]; simp [Value.oneCell']
 have HU1 := zh hu1
 clear hu1
 generalize hu2 : Value.slice ga2 x2.length gc2 = u2 at SP
 have on2 : ∀ v ∈ [u2], v.oneCell' = true := by rw [← hu2]; simp [Value.oneCell']
 have HU2 := zh hu2
 clear hu2
 generalize hu3 : Value.slice ga3 x3.length gc3 = u3 at SP
 have on3 : ∀ v ∈ [u3], v.oneCell' = true := by rw [← hu3]; simp [Value.oneCell']
 have HU3 := zh hu3
 clear hu3
 have hone := (one_app on0 (one_app on1 (one_app on2 on3)))
 clear on0 on1 on2 on3
 have ld := cell4 (SP.out.gB 2 rfl)
 have st := rst4 (P := Tryz.prog) (SP.out.gB 3 rfl) hone
 go_wp2
 clear ld st hone
 replace SP := zh (SP.out.store 3 rfl [u0, u1, u2, u3])
 generalize Y3.setRow (w.heap.size + 1) #[u0, u1, u2, u3] = YY at *
 have ld := cell4 (SP.out.gB 3 rfl)
 have J := SP.out.sub [0, 1] (by decide)
 refine bodyPost_ret (v := .agg #[u0, u1, u2, u3]) (by simp [results, Tryz.f22, go_sem, ld]) rfl ?_
 obtain ⟨_, J⟩ := J.cat
 replace J := J.intp x1
 replace J := J.intp x0
 obtain rfl := HU0.out
 obtain rfl := HU1.out
 obtain rfl := HU2.out
 obtain rfl := HU3.out
 exact ⟨_, rfl, J.outC, SP.out.d⟩
theorem tRow_one : tRow.One := (tPair_one tInt_one (tSl_one _ _))
theorem tRow_P {w : World} {cs : List Value} {x0 : _} {x1 : _} (h : tRow.R w cs (x0, x1)) : ∃ v1, cs = [.int .i64 x0, v1] ∧ SlR tInt w v1 x1 := by
 obtain ⟨_, _, rfl, rfl, ⟨v1, rfl, h1⟩⟩ := h
 exact ⟨v1, rfl, h1⟩
theorem szRow_eq {x0 : _} {x1 : _} : tRow.sz (x0, x1) = zL tInt x1 := by
 simp only [tRow, tPair_sz, tInt_sz, tSl_sz]; try omega
def leRow (x : Int × List Int) : Prop := zL tInt x.2 ≤ 1048576
theorem leRow_of {x : Int × List Int} (h : tRow.sz x ≤ 1048576) : leRow x := by
 obtain ⟨x0, x1⟩ := x
 rw [szRow_eq] at h
 show zL tInt x1 ≤ _; omega
set_option maxHeartbeats 8000000 in
theorem szK_Row {cs : List Value} {x : _} {k0 : Int} {w : World} (h : tRow.R w cs x) (hk : k0 ≤ 1048576) (hp : 0 ≤ k0) (ho : tRow.ok x) :
  Calls Tryz.prog 109 #[.agg cs.toArray, .int .i64 k0] w fun e w' => e = .returned (.int .i64 (szR k0 (tRow.sz x))) ∧ Below w.heap.size w w' := by
 obtain ⟨x0, x1⟩ := x
 obtain ⟨v1, rfl, h1⟩ := tRow_P h
 rw [szRow_eq]
 obtain ⟨o0, o1⟩ := ho
 have H1 := zh h1
 have O1 := zh o1
 clear h1
 clear o0 o1
 have SP := zh ((St.init w).box [.int .i64 x0, v1] 70)
 go_enter Tryz.func109, Tryz.ntmps109
 have ld := cell2 (SP.out.gB 0 rfl)
 go_wp2_with fail
 clear ld
 generalize (w.alloc (.cells #[.int .i64 x0, v1] 70)) = W0 at *
 refine (szKS_IntS (slR_below tInt_law H1.out SP.out.d) (k0 := k0) (by omega) (by omega) O1.out).mono ?_
 rintro e W1 ⟨rfl, c⟩
 replace SP := zh (SP.out.below c)
 clear c
 by_cases z0 : ((zL tInt x1 : Nat) : Int) ≤ k0
 rotate_left
 ·
  rw [szR_n z0]
  have HE := zh (szR_n (k := k0) (z := zL tInt x1) (by omega))
  clear z0
  go_wp2
  go_ret
  exact ⟨ty_ret HE.out.symm, SP.out.d⟩
 rw [szR_y z0]
 have n0 : ¬ k0 - ((zL tInt x1 : Nat) : Int) < 0 := by omega
 have HE : Hid (szR k0 (zL tInt x1) = k0 - ((zL tInt x1 : Nat) : Int)) := zh (by rw [szR_y (by omega)]; try omega)
 go_wp2
 go_ret
 exact ⟨ty_ret HE.out.symm, SP.out.d⟩
set_option maxHeartbeats 8000000 in
theorem eqK_Row {cs ds : List Value} {x : _} {w : World} (h : tRow.R w cs x) (g : tRow.R w ds x) (hs : leRow x) :
  Calls Tryz.prog 113 #[.agg cs.toArray, .agg ds.toArray] w fun e w' => e = .returned (.bool true) ∧ Below w.heap.size w w' := by
 obtain ⟨x0, x1⟩ := x
 obtain ⟨v1, rfl, h1⟩ := tRow_P h
 obtain ⟨v1', rfl, h1'⟩ := tRow_P g
 have l1 := hs
 have H1 := zh h1; have G1 := zh h1'; have S1 := zh l1
 clear h1 h1'
 clear l1
 have e0 : (x0 != x0) = false := by simp
 have SP : Hid (St w [iB (w.heap.size + 1) [.int .i64 x0, v1'] 75, iB w.heap.size [.int .i64 x0, v1] 75] ((w.alloc (.cells #[.int .i64 x0, v1] 75)).alloc (.cells #[.int .i64 x0, v1'] 75))) := zh (by have := ((St.init w).box [.int .i64 x0, v1] 75).box [.int .i64 x0, v1'] 75; simpa only [World.size_alloc] using this)
 go_enter Tryz.func113, Tryz.ntmps113
 have ld := cell2 (SP.out.gB 1 rfl)
 have lc := cell2 (SP.out.gB 0 rfl)
 go_wp2_with fail
 clear ld lc
 generalize ((w.alloc (.cells #[.int .i64 x0, v1] 75)).alloc (.cells #[.int .i64 x0, v1'] 75)) = W0 at *
 refine (eqKS_IntS (slR_below tInt_law H1.out SP.out.d) (slR_below tInt_law G1.out SP.out.d) S1.out).mono ?_
 rintro e W1 ⟨rfl, c⟩
 replace SP := zh (SP.out.below c)
 clear c
 have ld := cell2 (SP.out.gB 1 rfl)
 have lc := cell2 (SP.out.gB 0 rfl)
 go_wp2
 go_ret
 exact ⟨rfl, SP.out.d⟩
set_option maxHeartbeats 8000000 in
theorem toK_Row {cs : List Value} {x : _} {w : World} (h : tRow.R w cs x) (hs : tRow.sz x ≤ 1048576) :
  Calls Tryz.prog 111 #[.agg cs.toArray] w (FreshT tRow (fun cs => .agg cs.toArray) w x) := by
 obtain ⟨x0, x1⟩ := x
 obtain ⟨v1, rfl, h1⟩ := tRow_P h
 rw [szRow_eq] at hs
 have H1 := zh h1; have S1 := zh (show zL tInt x1 ≤ 1048576 by omega)
 clear hs h1
 have SP : Hid (St w [iB (w.heap.size + 1 + 1) [.int .i64 0, .slice none 0 0] 75, iB (w.heap.size + 1) [.int .i64 0, .slice none 0 0] 75, iB w.heap.size [.int .i64 x0, v1] 70] (((w.alloc (.cells #[.int .i64 x0, v1] 70)).alloc (.cells #[.int .i64 0, .slice none 0 0] 75)).alloc (.cells #[.int .i64 0, .slice none 0 0] 75))) := zh (by have := (((St.init w).box [.int .i64 x0, v1] 70).box [.int .i64 0, .slice none 0 0] 75).box [.int .i64 0, .slice none 0 0] 75; simpa only [World.size_alloc] using this)
 go_enter Tryz.func111, Tryz.ntmps111
 go_upto_region 2 with fail
 generalize (((w.alloc (.cells #[.int .i64 x0, v1] 70)).alloc (.cells #[.int .i64 0, .slice none 0 0] 75)).alloc (.cells #[.int .i64 0, .slice none 0 0] 75)) = W0 at *
 have ld := cell2 (SP.out.gB 2 rfl)
 have le := cell2 (SP.out.gB 0 rfl)
 have fz := froz2 (SP.out.gB 0 rfl)
 go_upto_region 3 with fail
 clear ld le fz
 have e := setCell_box (SP.out.gB 0 rfl) 0 (.int .i64 x0)
 simp only [List.setIfInBounds_toArray, List.set_cons_succ, List.set_cons_zero] at e
 rw [e]
 clear e
 replace SP := zh (SP.out.store 0 rfl [.int .i64 x0, .slice none 0 0])
 generalize W0.setRow (w.heap.size + 1 + 1) #[.int .i64 x0, .slice none 0 0] = Y0 at *
 have ld := cell2 (SP.out.gB 2 rfl)
 go_wp2_with fail
 clear ld
 refine (toKS_IntS (slR_below tInt_law H1.out SP.out.d) S1.out).mono ?_
 rintro e V1 ⟨g1, rfl, o, c⟩
 obtain ⟨ga1, gc1, rfl⟩ := slO_len o
 obtain ⟨F1, sp⟩ := SP.out.pushTE tInt_law tIntS_law c o (fun b h => h)
 replace SP := zh sp
 clear sp o c
 have le := cell2 (SP.out.gB 1 rfl)
 have fz := froz2 (SP.out.gB 1 rfl)
 go_upto_region 4 with fail
 clear le fz
 have e := setCell_box (SP.out.gB 1 rfl) 1 (.slice ga1 x1.length gc1)
 simp only [List.setIfInBounds_toArray, List.set_cons_succ, List.set_cons_zero] at e
 rw [e]
 clear e
 replace SP := zh (SP.out.store 1 rfl [.int .i64 x0, .slice ga1 x1.length gc1])
 generalize V1.setRow (w.heap.size + 1 + 1) #[.int .i64 x0, .slice ga1 x1.length gc1] = Y1 at *
 generalize hu0 : Value.int .i64 x0 = u0 at SP
 have on0 : ∀ v ∈ [u0], v.oneCell' = true := by rw [← hu0]; simp [Value.oneCell']
 have HU0 := zh hu0
 clear hu0
 generalize hu1 : Value.slice ga1 x1.length gc1 = u1 at SP
 have on1 : ∀ v ∈ [u1], v.oneCell' = true := by rw [← hu1]; simp [Value.oneCell']
 have HU1 := zh hu1
 clear hu1
 have hone := (one_app on0 on1)
 clear on0 on1
 have ld := cell2 (SP.out.gB 1 rfl)
 have st := rst2 (P := Tryz.prog) (SP.out.gB 2 rfl) hone
 go_wp2
 clear ld st hone
 replace SP := zh (SP.out.store 2 rfl [u0, u1])
 generalize Y1.setRow (w.heap.size + 1) #[u0, u1] = YY at *
 have ld := cell2 (SP.out.gB 2 rfl)
 have J := SP.out.sub [0] (by decide)
 refine bodyPost_ret (v := .agg #[u0, u1]) (by simp [results, Tryz.f111, go_sem, ld]) rfl ?_
 replace J := J.intp x0
 obtain rfl := HU0.out
 obtain rfl := HU1.out
 exact ⟨_, rfl, J.outC, SP.out.d⟩
set_option maxHeartbeats 8000000 in
theorem szKS_RowS {v : Value} {xs : _} {k0 : Int} {w : World} (h : SlR tRow w v xs) (hk : k0 ≤ 1048576) (hp : 0 ≤ k0) (ho : tRowS.ok xs) :
  Calls Tryz.prog 183 #[v, .int .i64 k0] w fun e w' => e = .returned (.int .i64 (szR k0 (zL tRow xs))) ∧ Below w.heap.size w w' := by
 have H := zh h
 have OX := zh ho.2
 have hn := ho.1
 obtain ⟨a, cap, rfl⟩ := slR_len h
 clear h ho
 by_cases h1 : k0 < (xs.length : Int)
 ·
  have hneg : k0 - (xs.length : Int) < 0 := by omega
  have HE := zh (szR_n (k := k0) (z := zL tRow xs) (by have := zTo_le (T := tRow) (xs := xs) (Nat.zero_le _); rw [zTo_zero] at this; omega))
  go_enter Tryz.func183, Tryz.ntmps183
  go_wp2
  go_ret
  exact ⟨ty_ret HE.out.symm, Below.refl _ _⟩
 ·
  go_enter Tryz.func183, Tryz.ntmps183
  have hneg : ¬ k0 - (xs.length : Int) < 0 := by omega
  go_wp2
  clear hneg
  go_loopw [1, 5] (fun l i wr => ∃ k : Nat, k ≤ xs.length ∧ i = .int .i64 k ∧ l = .int .i64 (k0 - (zTo tRow xs k : Int)) ∧ (zTo tRow xs k : Int) ≤ k0 ∧ Below w.heap.size w wr) (fun _ i _ => xs.length - (intOf i).toNat)
  case atStart => exact ⟨0, Nat.zero_le _, rfl, by rw [zTo_zero], by rw [zTo_zero]; omega, Below.refl _ _⟩
  case round =>
   obtain ⟨k, hk', rfl, rfl, hle, hbel⟩ := hrel
   by_cases hlt : k < xs.length
   ·
    have HST := zh (zTo_step (T := tRow) hlt)
    have HLE := zh (zTo_le (T := tRow) (xs := xs) (k := k + 1) (by omega))
    have HX := zh (OX.out k hlt)
    have i1 : (0 : Int) ≤ (k : Int) := by omega
    have i2 : (k : Int) < (xs.length : Int) := by omega
    obtain ⟨b, off, cap', cs, hv, hbl, hcs, hR⟩ := slR_at (slR_below tRow_law H.out hbel) hlt
    simp only [Value.slice.injEq] at hv
    obtain ⟨rfl, _, rfl⟩ := hv
    generalize xs.getD k tRow.d = x at *
    obtain ⟨y0, y1, rfl⟩ := len2 (tRow_law.len hR)
    have p := row2 (o := off + k * 2) hcs
    have HR := zh hR
    clear hcs hR
    go_wp2_with fail
    refine (szK_Row (k0 := k0 - (zTo tRow xs k : Int)) (tRow_law.below HR.out (Below.refl _ _)) (by omega) (by omega) HX.out).mono ?_
    rintro e w1 ⟨rfl, b1⟩
    have b2 := hbel.trans (b1.mono hbel.size)
    by_cases hz : ((tRow.sz x : Nat) : Int) ≤ k0 - (zTo tRow xs k : Int)
    ·
     rw [szR_y hz]
     have hneg : ¬ k0 - (zTo tRow xs k : Int) - ((tRow.sz x : Nat) : Int) < 0 := by omega
     have HZ := zh hz
     clear hz
     go_wp2
     go_roundw
     case rel => exact ⟨k + 1, by omega, by go_num, by rw [HST.out]; go_num, by rw [HST.out]; have := HZ.out; omega, b2⟩
     case measure => simp [intOf]; omega
    ·
     rw [szR_n hz]
     have HE := zh (szR_n (k := k0) (z := zL tRow xs) (by have := HST.out; have := HLE.out; omega))
     clear hz
     go_wp2
     go_ret
     exact ⟨ty_ret HE.out.symm, b2⟩
   ·
    obtain rfl : k = xs.length := by omega
    have HE := zh (szR_y (k := k0) (z := zL tRow xs) hle)
    go_wp2
    go_ret
    exact ⟨ty_ret HE.out.symm, hbel⟩
theorem Tryz.kinfo_RowS : (Tryz.prog.info? 75).map (fun i => (i.zero, i.size)) = some (some (.agg #[.int .i64 0, .slice none 0 0]), 2) := by kernel_rfl
theorem Tryz.kbytes_RowS : ((Tryz.prog.info? 75).map (fun i => decide (i.bytes ≤ 512))) = some true := by kernel_rfl
set_option maxHeartbeats 8000000 in
theorem toKS_RowS {v : Value} {xs : _} {w : World} (h : SlR tRow w v xs) (hs : zL tRow xs ≤ 1048576) :
  Calls Tryz.prog 192 #[v] w (FreshS 75 tRow w xs) := by
 obtain ⟨i0, hi, hz0, hz1⟩ : ∃ i0, Tryz.prog.info? 75 = some i0 ∧ i0.zero = some (.agg #[.int .i64 0, .slice none 0 0]) ∧ i0.size = 2 := by
  have h0 := Tryz.kinfo_RowS
  cases q : Tryz.prog.info? 75 with
  | none => rw [q] at h0; simp at h0
  | some i => rw [q] at h0; simp only [Option.map_some, Option.some.injEq, Prod.mk.injEq] at h0; exact ⟨i, rfl, h0.1, h0.2⟩
 have hz2 : i0.bytes ≤ 512 := by
  have h0 := Tryz.kbytes_RowS
  rw [hi] at h0
  simpa using h0
 have HI := zh hi; have HZ0 := zh hz0; have HZ1 := zh hz1; have HZ2 := zh hz2
 clear hi hz0 hz1 hz2
 have H := zh h
 have hlen := zL_len hs
 have HS := zh hs
 obtain ⟨a, cap, rfl⟩ := slR_len h
 clear h hs
 go_enter Tryz.func192, Tryz.ntmps192
 go_wp2_with (at_make; refine wpList_make_full _ rfl (.tmp 6) (.tmp 6) 57 rfl w.heap.size 75 i0 (.agg #[.int .i64 0, .slice none 0 0]) 2 Tryz.underlying57 HI.out HZ0.out HZ1.out _ _ _ _ xs.length rfl rfl rfl rfl (by have h9 := Nat.mul_le_mul HZ2.out hlen; have h8 := Nat.mul_le_mul hlen HZ2.out; omega) (by unfold maxLen; omega) (Nat.le_refl _) ?_)
 intro w1 hown0 hg0
 have hown1 : SlO 75 tRow w1 (since w) (.slice (some ⟨w.heap.size, 0, none⟩) xs.length xs.length) (List.replicate xs.length tRow.d) := slO_made (z := #[.int .i64 0, .slice none 0 0]) tRow_law rfl (tRow_zero w1) (Nat.le_refl _) hown0
 have hbel1 := (Below.refl w.heap.size w).grown hg0 (Nat.le_refl _) (fun k hk => by cases hk)
 clear hown0 hg0
 go_wp2
 go_loopw [4] (fun i wr => ∃ k : Nat, k ≤ xs.length ∧ i = .int .i64 k ∧ SlO 75 tRow wr (since w) (.slice (some ⟨w.heap.size, 0, none⟩) xs.length xs.length) (xs.take k ++ List.replicate (xs.length - k) tRow.d) ∧ Below w.heap.size w wr) (fun i _ => xs.length - (intOf i).toNat)
 case atStart => exact ⟨0, Nat.zero_le _, rfl, by simpa using hown1, hbel1⟩
 case round =>
  obtain ⟨k, hk, rfl, hown, hbel⟩ := hrel
  by_cases hlt : k < xs.length
  ·
   have HSET := zh (cTo_step (d := tRow.d) hlt)
   have HKL : k < (xs.take k ++ List.replicate (xs.length - k) tRow.d).length := by rw [cTo_len hk]; exact hlt
   have i1 : (0 : Int) ≤ (k : Int) := by omega
   have i2 : (k : Int) < (xs.length : Int) := by omega
   have S1 := zh (zL_at HS.out hlt)
   obtain ⟨b, off, cap', cs, hv, hbl, hcs, hR⟩ := slR_at (slR_below tRow_law H.out hbel) hlt
   simp only [Value.slice.injEq] at hv
   obtain ⟨rfl, _, rfl⟩ := hv
   obtain ⟨cur, hg, hsz, hput⟩ := slO_fill tRow_law hown HKL
   have HG := zh hg; have HP := zh hput; have HB := zh hbel
   clear HKL hown1 hbel1 hg hput hown hbel
   generalize xs.getD k tRow.d = x at *
   obtain ⟨y0, y1, rfl⟩ := len2 (tRow_law.len hR)
   have p := row2 (o := off + k * 2) hcs
   have HR := zh hR
   clear hcs hR
   go_wp2_with fail
   refine (toK_Row HR.out S1.out).mono ?_
   rintro e w2 ⟨gs, rfl, ow, b2⟩
   obtain ⟨g0, g1, rfl⟩ := len2 (tRow_law.len (tRow_law.reads ow))
   have hgl := (Array.getElem?_eq_some_iff.1 HG.out).1
   have st := fill2 (P := Tryz.prog) (o := k * 2) ((b2.block _ hgl).trans HG.out) hsz (tRow_one (tRow_law.reads ow))
   have HST := zh (HP.out w2 _ _ _ b2 ow (fun b hb => ⟨Nat.le_trans HB.out.size hb, hb⟩))
   rw [HSET.out] at HST
   have B3 := zh (below_turn (HB.out.trans (b2.mono HB.out.size)) (turn_row (b := w.heap.size) (c := putL cur (k * 2) [g0, g1])) (fun b hb => by rw [hb]; exact Nat.le_refl _) (Nat.le_trans HB.out.size b2.size))
   clear hsz hgl b2 ow
   go_wp2
   go_roundw
   case rel => exact ⟨k + 1, by omega, by go_num, HST.out, B3.out⟩
   case measure => simp [intOf]; omega
  ·
   obtain rfl : k = xs.length := by omega
   have HE : Hid (xs.take xs.length ++ List.replicate (xs.length - xs.length) tRow.d = xs) := zh (by simp)
   rw [HE.out] at hown
   go_wp2
   go_ret
   exact ⟨_, rfl, hown, hbel⟩
set_option maxHeartbeats 8000000 in
theorem eqKS_RowS {v u : Value} {xs : _} {w : World} (h : SlR tRow w v xs) (g : SlR tRow w u xs) (hs : zL tRow xs ≤ 1048576) :
  Calls Tryz.prog 82 #[v, u] w fun e w' => e = .returned (.bool true) ∧ Below w.heap.size w w' := by
 have H := zh h
 have G := zh g
 have HS := zh hs
 obtain ⟨a, cap, rfl⟩ := slR_len h
 obtain ⟨a2, cap2, rfl⟩ := slR_len g
 have hlen := zL_len hs
 clear h g hs
 go_enter Tryz.func82, Tryz.ntmps82
 go_wp2
 go_loopw [5] (fun i wr => ∃ k : Nat, k ≤ xs.length ∧ i = .int .i64 k ∧ Below w.heap.size w wr) (fun i _ => xs.length - (intOf i).toNat)
 case atStart => exact ⟨0, Nat.zero_le _, rfl, Below.refl _ _⟩
 case round =>
  obtain ⟨k, hk, rfl, hbel⟩ := hrel
  by_cases hlt : k < xs.length
  ·
   obtain ⟨b, off, cap', cs, hv, hbl, hcs, hR⟩ := slR_at (slR_below tRow_law H.out hbel) hlt
   simp only [Value.slice.injEq] at hv
   obtain ⟨rfl, _, rfl⟩ := hv
   obtain ⟨b2, off2, cap2', ds, hv2, hbl2, hds, hQ⟩ := slR_at (slR_below tRow_law G.out hbel) hlt
   simp only [Value.slice.injEq] at hv2
   obtain ⟨rfl, _, rfl⟩ := hv2
   have S1 := zh (zL_at HS.out hlt)
   have i1 : (0 : Int) ≤ (k : Int) := by omega
   have i2 : (k : Int) < (xs.length : Int) := by omega
   generalize xs.getD k tRow.d = x at *
   obtain ⟨y0, y1, rfl⟩ := len2 (tRow_law.len hR)
   obtain ⟨z0, z1, rfl⟩ := len2 (tRow_law.len hQ)
   have p := row2 (o := off + k * 2) hcs; have q := row2 (o := off2 + k * 2) hds
   have HR := zh hR; have HQ := zh hQ; have HB := zh hbel
   clear hcs hds hR hQ hbel
   go_wp2
   go_region_with (first | (go_at_call 113; refine (eqK_Row (by exact tRow_law.below HR.out ⟨rfl, rfl, rfl, Nat.le_refl _, fun _ _ => rfl⟩) (by exact tRow_law.below HQ.out ⟨rfl, rfl, rfl, Nat.le_refl _, fun _ _ => rfl⟩) (leRow_of S1.out)).mono ?_; rintro e w8 ⟨rfl, b9⟩; have b11 := zh (HB.out.trans (Below.mono (B := wr.heap.size) ⟨b9.os, b9.tape, b9.output, b9.size, b9.block⟩ HB.out.size)); clear b9))
   all_goals
    go_wp2
    go_roundw
    case rel => exact ⟨k + 1, by omega, by go_num, b11.out⟩
    case measure => simp [intOf]; omega
  ·
   go_wp2
   go_ret
   exact ⟨rfl, hbel⟩
theorem tActive_one : tActive.One := (tPair_one tQuery_one (tPair_one tInt_one (tPair_one (tSl_one _ _) (tPair_one tInt_one (tPair_one tInt_one (tPair_one tInt_one (tSl_one _ _)))))))
theorem tActive_P {w : World} {cs : List Value} {x0 : _} {x1 : _} {x2 : _} {x3 : _} {x4 : _} {x5 : _} {x6 : _} (h : tActive.R w cs (x0, x1, x2, x3, x4, x5, x6)) : ∃ p0_0 p0_1 p0_2 p0_3 v2 v6, cs = [p0_0, p0_1, p0_2, p0_3, .int .i64 x1, v2, .int .i64 x3, .int .i64 x4, .int .i64 x5, v6] ∧ tQuery.R w [p0_0, p0_1, p0_2, p0_3] x0 ∧ SlR tInt w v2 x2 ∧ SlR tRow w v6 x6 := by
 obtain ⟨c0, _, rfl, h0, ⟨_, _, rfl, rfl, ⟨_, _, rfl, ⟨v2, rfl, h2⟩, ⟨_, _, rfl, rfl, ⟨_, _, rfl, rfl, ⟨_, _, rfl, rfl, ⟨v6, rfl, h6⟩⟩⟩⟩⟩⟩⟩ := h
 obtain ⟨p0_0, p0_1, p0_2, p0_3, rfl⟩ := len4 (tQuery_law.len h0)
 exact ⟨p0_0, p0_1, p0_2, p0_3, v2, v6, rfl, h0, h2, h6⟩
theorem szActive_eq {x0 : _} {x1 : _} {x2 : _} {x3 : _} {x4 : _} {x5 : _} {x6 : _} : tActive.sz (x0, x1, x2, x3, x4, x5, x6) = tQuery.sz x0 + zL tInt x2 + zL tRow x6 := by
 simp only [tActive, tPair_sz, tInt_sz, tSl_sz]; try omega
def leActive (x : (Int × Int × List (Int × Int × Int) × List Int) × Int × List Int × Int × Int × Int × List (Int × List Int)) : Prop := leQuery x.1 ∧ zL tInt x.2.2.1 ≤ 1048576 ∧ zL tRow x.2.2.2.2.2.2 ≤ 1048576
theorem leActive_of {x : (Int × Int × List (Int × Int × Int) × List Int) × Int × List Int × Int × Int × Int × List (Int × List Int)} (h : tActive.sz x ≤ 1048576) : leActive x := by
 obtain ⟨x0, x1, x2, x3, x4, x5, x6⟩ := x
 rw [szActive_eq] at h
 exact ⟨leQuery_of (show tQuery.sz x0 ≤ _ by omega), by show zL tInt x2 ≤ _; omega, by show zL tRow x6 ≤ _; omega⟩
set_option maxHeartbeats 8000000 in
theorem szK_Active {cs : List Value} {x : _} {k0 : Int} {w : World} (h : tActive.R w cs x) (hk : k0 ≤ 1048576) (hp : 0 ≤ k0) (ho : tActive.ok x) :
  Calls Tryz.prog 118 #[.agg cs.toArray, .int .i64 k0] w fun e w' => e = .returned (.int .i64 (szR k0 (tActive.sz x))) ∧ Below w.heap.size w w' := by
 obtain ⟨x0, x1, x2, x3, x4, x5, x6⟩ := x
 obtain ⟨p0_0, p0_1, p0_2, p0_3, v2, v6, rfl, h0, h2, h6⟩ := tActive_P h
 rw [szActive_eq]
 obtain ⟨o0, o1, o2, o3, o4, o5, o6⟩ := ho
 have H0 := zh h0
 have O0 := zh o0
 have H2 := zh h2
 have O2 := zh o2
 have H6 := zh h6
 have O6 := zh o6
 clear h0 h2 h6
 clear o0 o1 o2 o3 o4 o5 o6
 have SP := zh ((St.init w).box [p0_0, p0_1, p0_2, p0_3, .int .i64 x1, v2, .int .i64 x3, .int .i64 x4, .int .i64 x5, v6] 150)
 go_enter Tryz.func118, Tryz.ntmps118
 have ld := cell10 (SP.out.gB 0 rfl)
 go_wp2_with fail
 clear ld
 generalize (w.alloc (.cells #[p0_0, p0_1, p0_2, p0_3, .int .i64 x1, v2, .int .i64 x3, .int .i64 x4, .int .i64 x5, v6] 150)) = W0 at *
 refine (szK_Query (tQuery_law.below H0.out SP.out.d) (k0 := k0) (by omega) (by omega) O0.out).mono ?_
 rintro e W1 ⟨rfl, c⟩
 replace SP := zh (SP.out.below c)
 clear c
 by_cases z0 : ((tQuery.sz x0 : Nat) : Int) ≤ k0
 rotate_left
 ·
  rw [szR_n z0]
  have HE := zh (szR_n (k := k0) (z := tQuery.sz x0 + zL tInt x2 + zL tRow x6) (by omega))
  clear z0
  go_wp2
  go_ret
  exact ⟨ty_ret HE.out.symm, SP.out.d⟩
 rw [szR_y z0]
 have n0 : ¬ k0 - ((tQuery.sz x0 : Nat) : Int) < 0 := by omega
 have ld := cell10 (SP.out.gB 0 rfl)
 go_wp2_with fail
 clear ld
 refine (szKS_IntS (slR_below tInt_law H2.out SP.out.d) (k0 := k0 - ((tQuery.sz x0 : Nat) : Int)) (by omega) (by omega) O2.out).mono ?_
 rintro e W2 ⟨rfl, c⟩
 replace SP := zh (SP.out.below c)
 clear c
 by_cases z1 : ((zL tInt x2 : Nat) : Int) ≤ k0 - ((tQuery.sz x0 : Nat) : Int)
 rotate_left
 ·
  rw [szR_n z1]
  have HE := zh (szR_n (k := k0) (z := tQuery.sz x0 + zL tInt x2 + zL tRow x6) (by omega))
  clear z0 z1
  go_wp2
  go_ret
  exact ⟨ty_ret HE.out.symm, SP.out.d⟩
 rw [szR_y z1]
 have n1 : ¬ k0 - ((tQuery.sz x0 : Nat) : Int) - ((zL tInt x2 : Nat) : Int) < 0 := by omega
 have ld := cell10 (SP.out.gB 0 rfl)
 go_wp2_with fail
 clear ld
 refine (szKS_RowS (slR_below tRow_law H6.out SP.out.d) (k0 := k0 - ((tQuery.sz x0 : Nat) : Int) - ((zL tInt x2 : Nat) : Int)) (by omega) (by omega) O6.out).mono ?_
 rintro e W3 ⟨rfl, c⟩
 replace SP := zh (SP.out.below c)
 clear c
 by_cases z2 : ((zL tRow x6 : Nat) : Int) ≤ k0 - ((tQuery.sz x0 : Nat) : Int) - ((zL tInt x2 : Nat) : Int)
 rotate_left
 ·
  rw [szR_n z2]
  have HE := zh (szR_n (k := k0) (z := tQuery.sz x0 + zL tInt x2 + zL tRow x6) (by omega))
  clear z0 z1 z2
  go_wp2
  go_ret
  exact ⟨ty_ret HE.out.symm, SP.out.d⟩
 rw [szR_y z2]
 have n2 : ¬ k0 - ((tQuery.sz x0 : Nat) : Int) - ((zL tInt x2 : Nat) : Int) - ((zL tRow x6 : Nat) : Int) < 0 := by omega
 have HE : Hid (szR k0 (tQuery.sz x0 + zL tInt x2 + zL tRow x6) = k0 - ((tQuery.sz x0 : Nat) : Int) - ((zL tInt x2 : Nat) : Int) - ((zL tRow x6 : Nat) : Int)) := zh (by rw [szR_y (by omega)]; try omega)
 go_wp2
 go_ret
 exact ⟨ty_ret HE.out.symm, SP.out.d⟩
set_option maxHeartbeats 8000000 in
theorem eqK_Active {cs ds : List Value} {x : _} {w : World} (h : tActive.R w cs x) (g : tActive.R w ds x) (hs : leActive x) :
  Calls Tryz.prog 139 #[.agg cs.toArray, .agg ds.toArray] w fun e w' => e = .returned (.bool true) ∧ Below w.heap.size w w' := by
 obtain ⟨x0, x1, x2, x3, x4, x5, x6⟩ := x
 obtain ⟨p0_0, p0_1, p0_2, p0_3, v2, v6, rfl, h0, h2, h6⟩ := tActive_P h
 obtain ⟨p0_0', p0_1', p0_2', p0_3', v2', v6', rfl, h0', h2', h6'⟩ := tActive_P g
 obtain ⟨l0, l2, l6⟩ := hs
 have H0 := zh h0; have G0 := zh h0'; have S0 := zh l0
 have H2 := zh h2; have G2 := zh h2'; have S2 := zh l2
 have H6 := zh h6; have G6 := zh h6'; have S6 := zh l6
 clear h0 h0' h2 h2' h6 h6'
 clear l0 l2 l6
 have e1 : (x1 != x1) = false := by simp
 have e3 : (x3 != x3) = false := by simp
 have e4 : (x4 != x4) = false := by simp
 have e5 : (x5 != x5) = false := by simp
 have SP : Hid (St w [iB (w.heap.size + 1) [p0_0', p0_1', p0_2', p0_3', .int .i64 x1, v2', .int .i64 x3, .int .i64 x4, .int .i64 x5, v6'] 104, iB w.heap.size [p0_0, p0_1, p0_2, p0_3, .int .i64 x1, v2, .int .i64 x3, .int .i64 x4, .int .i64 x5, v6] 104] ((w.alloc (.cells #[p0_0, p0_1, p0_2, p0_3, .int .i64 x1, v2, .int .i64 x3, .int .i64 x4, .int .i64 x5, v6] 104)).alloc (.cells #[p0_0', p0_1', p0_2', p0_3', .int .i64 x1, v2', .int .i64 x3, .int .i64 x4, .int .i64 x5, v6'] 104))) := zh (by have := ((St.init w).box [p0_0, p0_1, p0_2, p0_3, .int .i64 x1, v2, .int .i64 x3, .int .i64 x4, .int .i64 x5, v6] 104).box [p0_0', p0_1', p0_2', p0_3', .int .i64 x1, v2', .int .i64 x3, .int .i64 x4, .int .i64 x5, v6'] 104; simpa only [World.size_alloc] using this)
 go_enter Tryz.func139, Tryz.ntmps139
 have ld := cell10 (SP.out.gB 1 rfl)
 have lc := cell10 (SP.out.gB 0 rfl)
 go_wp2_with fail
 clear ld lc
 generalize ((w.alloc (.cells #[p0_0, p0_1, p0_2, p0_3, .int .i64 x1, v2, .int .i64 x3, .int .i64 x4, .int .i64 x5, v6] 104)).alloc (.cells #[p0_0', p0_1', p0_2', p0_3', .int .i64 x1, v2', .int .i64 x3, .int .i64 x4, .int .i64 x5, v6'] 104)) = W0 at *
 refine (eqK_Query (tQuery_law.below H0.out SP.out.d) (tQuery_law.below G0.out SP.out.d) S0.out).mono ?_
 rintro e W1 ⟨rfl, c⟩
 replace SP := zh (SP.out.below c)
 clear c
 have ld := cell10 (SP.out.gB 1 rfl)
 have lc := cell10 (SP.out.gB 0 rfl)
 go_wp2_with fail
 clear ld lc
 refine (eqKS_IntS (slR_below tInt_law H2.out SP.out.d) (slR_below tInt_law G2.out SP.out.d) S2.out).mono ?_
 rintro e W2 ⟨rfl, c⟩
 replace SP := zh (SP.out.below c)
 clear c
 have ld := cell10 (SP.out.gB 1 rfl)
 have lc := cell10 (SP.out.gB 0 rfl)
 go_wp2_with fail
 clear ld lc
 refine (eqKS_RowS (slR_below tRow_law H6.out SP.out.d) (slR_below tRow_law G6.out SP.out.d) S6.out).mono ?_
 rintro e W3 ⟨rfl, c⟩
 replace SP := zh (SP.out.below c)
 clear c
 have ld := cell10 (SP.out.gB 1 rfl)
 have lc := cell10 (SP.out.gB 0 rfl)
 go_wp2
 go_ret
 exact ⟨rfl, SP.out.d⟩
set_option maxHeartbeats 8000000 in
theorem toK_Active {cs : List Value} {x : _} {w : World} (h : tActive.R w cs x) (hs : tActive.sz x ≤ 1048576) :
  Calls Tryz.prog 127 #[.agg cs.toArray] w (FreshT tActive (fun cs => .agg cs.toArray) w x) := by
 obtain ⟨x0, x1, x2, x3, x4, x5, x6⟩ := x
 obtain ⟨p0_0, p0_1, p0_2, p0_3, v2, v6, rfl, h0, h2, h6⟩ := tActive_P h
 rw [szActive_eq] at hs
 have H0 := zh h0; have S0 := zh (show tQuery.sz x0 ≤ 1048576 by omega)
 have H2 := zh h2; have S2 := zh (show zL tInt x2 ≤ 1048576 by omega)
 have H6 := zh h6; have S6 := zh (show zL tRow x6 ≤ 1048576 by omega)
 clear hs h0 h2 h6
 have SP : Hid (St w [iB (w.heap.size + 1 + 1) [.int .i64 0, .int .i64 0, .slice none 0 0, .slice none 0 0, .int .i64 0, .slice none 0 0, .int .i64 0, .int .i64 0, .int .i64 0, .slice none 0 0] 104, iB (w.heap.size + 1) [.int .i64 0, .int .i64 0, .slice none 0 0, .slice none 0 0, .int .i64 0, .slice none 0 0, .int .i64 0, .int .i64 0, .int .i64 0, .slice none 0 0] 104, iB w.heap.size [p0_0, p0_1, p0_2, p0_3, .int .i64 x1, v2, .int .i64 x3, .int .i64 x4, .int .i64 x5, v6] 150] (((w.alloc (.cells #[p0_0, p0_1, p0_2, p0_3, .int .i64 x1, v2, .int .i64 x3, .int .i64 x4, .int .i64 x5, v6] 150)).alloc (.cells #[.int .i64 0, .int .i64 0, .slice none 0 0, .slice none 0 0, .int .i64 0, .slice none 0 0, .int .i64 0, .int .i64 0, .int .i64 0, .slice none 0 0] 104)).alloc (.cells #[.int .i64 0, .int .i64 0, .slice none 0 0, .slice none 0 0, .int .i64 0, .slice none 0 0, .int .i64 0, .int .i64 0, .int .i64 0, .slice none 0 0] 104))) := zh (by have := (((St.init w).box [p0_0, p0_1, p0_2, p0_3, .int .i64 x1, v2, .int .i64 x3, .int .i64 x4, .int .i64 x5, v6] 150).box [.int .i64 0, .int .i64 0, .slice none 0 0, .slice none 0 0, .int .i64 0, .slice none 0 0, .int .i64 0, .int .i64 0, .int .i64 0, .slice none 0 0] 104).box [.int .i64 0, .int .i64 0, .slice none 0 0, .slice none 0 0, .int .i64 0, .slice none 0 0, .int .i64 0, .int .i64 0, .int .i64 0, .slice none 0 0] 104; simpa only [World.size_alloc] using this)
 go_enter Tryz.func127, Tryz.ntmps127
 go_upto_region 2 with fail
 generalize (((w.alloc (.cells #[p0_0, p0_1, p0_2, p0_3, .int .i64 x1, v2, .int .i64 x3, .int .i64 x4, .int .i64 x5, v6] 150)).alloc (.cells #[.int .i64 0, .int .i64 0, .slice none 0 0, .slice none 0 0, .int .i64 0, .slice none 0 0, .int .i64 0, .int .i64 0, .int .i64 0, .slice none 0 0] 104)).alloc (.cells #[.int .i64 0, .int .i64 0, .slice none 0 0, .slice none 0 0, .int .i64 0, .slice none 0 0, .int .i64 0, .int .i64 0, .int .i64 0, .slice none 0 0] 104)) = W0 at *
 have ld := cell10 (SP.out.gB 2 rfl)
 go_wp2_with fail
 clear ld
 refine (toK_Query (tQuery_law.below H0.out SP.out.d) S0.out).mono ?_
 rintro e V0 ⟨gs, rfl, o, c⟩
 obtain ⟨g0_0, g0_1, g0_2, g0_3, rfl⟩ := len4 (tQuery_law.len (tQuery_law.reads o))
 obtain ⟨F0, sp⟩ := SP.out.pushE tQuery_law c o (fun b h => h)
 replace SP := zh sp
 clear sp o c
 have st0 := store_at (P := Tryz.prog) (j := 0) (SP.out.gB 1 rfl) (by simp) (v := g0_0) (tQuery_one (SP.out.rT 0 rfl) _ (by simp))
 have st1 := store_at (P := Tryz.prog) (j := 1) (setRow_heap V0 (w.heap.size + 1 + 1) _ #[g0_0, .int .i64 0, .slice none 0 0, .slice none 0 0, .int .i64 0, .slice none 0 0, .int .i64 0, .int .i64 0, .int .i64 0, .slice none 0 0] 104 (0, 0) (SP.out.gB 1 rfl)) (by simp) (v := g0_1) (tQuery_one (SP.out.rT 0 rfl) _ (by simp))
 rw [setRow_setRow] at st1
 have st2 := store_at (P := Tryz.prog) (j := 2) (setRow_heap V0 (w.heap.size + 1 + 1) _ #[g0_0, g0_1, .slice none 0 0, .slice none 0 0, .int .i64 0, .slice none 0 0, .int .i64 0, .int .i64 0, .int .i64 0, .slice none 0 0] 104 (0, 0) (SP.out.gB 1 rfl)) (by simp) (v := g0_2) (tQuery_one (SP.out.rT 0 rfl) _ (by simp))
 rw [setRow_setRow] at st2
 have st3 := store_at (P := Tryz.prog) (j := 3) (setRow_heap V0 (w.heap.size + 1 + 1) _ #[g0_0, g0_1, g0_2, .slice none 0 0, .int .i64 0, .slice none 0 0, .int .i64 0, .int .i64 0, .int .i64 0, .slice none 0 0] 104 (0, 0) (SP.out.gB 1 rfl)) (by simp) (v := g0_3) (tQuery_one (SP.out.rT 0 rfl) _ (by simp))
 rw [setRow_setRow] at st3
 simp only [List.setIfInBounds_toArray, List.set_cons_succ, List.set_cons_zero] at st0 st1 st2 st3
 go_upto_region 3 with fail
 clear st0 st1 st2 st3
 replace SP := zh (SP.out.store 1 rfl [g0_0, g0_1, g0_2, g0_3, .int .i64 0, .slice none 0 0, .int .i64 0, .int .i64 0, .int .i64 0, .slice none 0 0])
 generalize V0.setRow (w.heap.size + 1 + 1) #[g0_0, g0_1, g0_2, g0_3, .int .i64 0, .slice none 0 0, .int .i64 0, .int .i64 0, .int .i64 0, .slice none 0 0] = Y0 at *
 have ld := cell10 (SP.out.gB 3 rfl)
 have le := cell10 (SP.out.gB 1 rfl)
 have fz := froz10 (SP.out.gB 1 rfl)
 go_upto_region 4 with fail
 clear ld le fz
 have e := setCell_box (SP.out.gB 1 rfl) 4 (.int .i64 x1)
 simp only [List.setIfInBounds_toArray, List.set_cons_succ, List.set_cons_zero] at e
 rw [e]
 clear e
 replace SP := zh (SP.out.store 1 rfl [g0_0, g0_1, g0_2, g0_3, .int .i64 x1, .slice none 0 0, .int .i64 0, .int .i64 0, .int .i64 0, .slice none 0 0])
 generalize Y0.setRow (w.heap.size + 1 + 1) #[g0_0, g0_1, g0_2, g0_3, .int .i64 x1, .slice none 0 0, .int .i64 0, .int .i64 0, .int .i64 0, .slice none 0 0] = Y1 at *
 have ld := cell10 (SP.out.gB 3 rfl)
 go_wp2_with fail
 clear ld
 refine (toKS_IntS (slR_below tInt_law H2.out SP.out.d) S2.out).mono ?_
 rintro e V2 ⟨g2, rfl, o, c⟩
 obtain ⟨ga2, gc2, rfl⟩ := slO_len o
 obtain ⟨F2, sp⟩ := SP.out.pushTE tInt_law tIntS_law c o (fun b h => h)
 replace SP := zh sp
 clear sp o c
 have le := cell10 (SP.out.gB 2 rfl)
 have fz := froz10 (SP.out.gB 2 rfl)
 go_upto_region 5 with fail
 clear le fz
 have e := setCell_box (SP.out.gB 2 rfl) 5 (.slice ga2 x2.length gc2)
 simp only [List.setIfInBounds_toArray, List.set_cons_succ, List.set_cons_zero] at e
 rw [e]
 clear e
 replace SP := zh (SP.out.store 2 rfl [g0_0, g0_1, g0_2, g0_3, .int .i64 x1, .slice ga2 x2.length gc2, .int .i64 0, .int .i64 0, .int .i64 0, .slice none 0 0])
 generalize V2.setRow (w.heap.size + 1 + 1) #[g0_0, g0_1, g0_2, g0_3, .int .i64 x1, .slice ga2 x2.length gc2, .int .i64 0, .int .i64 0, .int .i64 0, .slice none 0 0] = Y2 at *
 have ld := cell10 (SP.out.gB 4 rfl)
 have le := cell10 (SP.out.gB 2 rfl)
 have fz := froz10 (SP.out.gB 2 rfl)
 go_upto_region 6 with fail
 clear ld le fz
 have e := setCell_box (SP.out.gB 2 rfl) 6 (.int .i64 x3)
 simp only [List.setIfInBounds_toArray, List.set_cons_succ, List.set_cons_zero] at e
 rw [e]
 clear e
 replace SP := zh (SP.out.store 2 rfl [g0_0, g0_1, g0_2, g0_3, .int .i64 x1, .slice ga2 x2.length gc2, .int .i64 x3, .int .i64 0, .int .i64 0, .slice none 0 0])
 generalize Y2.setRow (w.heap.size + 1 + 1) #[g0_0, g0_1, g0_2, g0_3, .int .i64 x1, .slice ga2 x2.length gc2, .int .i64 x3, .int .i64 0, .int .i64 0, .slice none 0 0] = Y3 at *
 have ld := cell10 (SP.out.gB 4 rfl)
 have le := cell10 (SP.out.gB 2 rfl)
 have fz := froz10 (SP.out.gB 2 rfl)
 go_upto_region 7 with fail
 clear ld le fz
 have e := setCell_box (SP.out.gB 2 rfl) 7 (.int .i64 x4)
 simp only [List.setIfInBounds_toArray, List.set_cons_succ, List.set_cons_zero] at e
 rw [e]
 clear e
 replace SP := zh (SP.out.store 2 rfl [g0_0, g0_1, g0_2, g0_3, .int .i64 x1, .slice ga2 x2.length gc2, .int .i64 x3, .int .i64 x4, .int .i64 0, .slice none 0 0])
 generalize Y3.setRow (w.heap.size + 1 + 1) #[g0_0, g0_1, g0_2, g0_3, .int .i64 x1, .slice ga2 x2.length gc2, .int .i64 x3, .int .i64 x4, .int .i64 0, .slice none 0 0] = Y4 at *
 have ld := cell10 (SP.out.gB 4 rfl)
 have le := cell10 (SP.out.gB 2 rfl)
 have fz := froz10 (SP.out.gB 2 rfl)
 go_upto_region 8 with fail
 clear ld le fz
 have e := setCell_box (SP.out.gB 2 rfl) 8 (.int .i64 x5)
 simp only [List.setIfInBounds_toArray, List.set_cons_succ, List.set_cons_zero] at e
 rw [e]
 clear e
 replace SP := zh (SP.out.store 2 rfl [g0_0, g0_1, g0_2, g0_3, .int .i64 x1, .slice ga2 x2.length gc2, .int .i64 x3, .int .i64 x4, .int .i64 x5, .slice none 0 0])
 generalize Y4.setRow (w.heap.size + 1 + 1) #[g0_0, g0_1, g0_2, g0_3, .int .i64 x1, .slice ga2 x2.length gc2, .int .i64 x3, .int .i64 x4, .int .i64 x5, .slice none 0 0] = Y5 at *
 have ld := cell10 (SP.out.gB 4 rfl)
 go_wp2_with fail
 clear ld
 refine (toKS_RowS (slR_below tRow_law H6.out SP.out.d) S6.out).mono ?_
 rintro e V6 ⟨g6, rfl, o, c⟩
 obtain ⟨ga6, gc6, rfl⟩ := slO_len o
 obtain ⟨F6, sp⟩ := SP.out.pushTE tRow_law tRowS_law c o (fun b h => h)
 replace SP := zh sp
 clear sp o c
 have le := cell10 (SP.out.gB 3 rfl)
 have fz := froz10 (SP.out.gB 3 rfl)
 go_upto_region 9 with fail
 clear le fz
 have e := setCell_box (SP.out.gB 3 rfl) 9 (.slice ga6 x6.length gc6)
 simp only [List.setIfInBounds_toArray, List.set_cons_succ, List.set_cons_zero] at e
 rw [e]
 clear e
 replace SP := zh (SP.out.store 3 rfl [g0_0, g0_1, g0_2, g0_3, .int .i64 x1, .slice ga2 x2.length gc2, .int .i64 x3, .int .i64 x4, .int .i64 x5, .slice ga6 x6.length gc6])
 generalize V6.setRow (w.heap.size + 1 + 1) #[g0_0, g0_1, g0_2, g0_3, .int .i64 x1, .slice ga2 x2.length gc2, .int .i64 x3, .int .i64 x4, .int .i64 x5, .slice ga6 x6.length gc6] = Y6 at *
 generalize hu4 : Value.int .i64 x1 = u4 at SP
 have on4 : ∀ v ∈ [u4], v.oneCell' = true := by rw [← hu4]; simp [Value.oneCell']
 have HU4 := zh hu4
 clear hu4
 generalize hu5 : Value.slice ga2 x2.length gc2 = u5 at SP
 have on5 : ∀ v ∈ [u5], v.oneCell' = true := by rw [← hu5]; simp [Value.oneCell']
 have HU5 := zh hu5
 clear hu5
 generalize hu6 : Value.int .i64 x3 = u6 at SP
 have on6 : ∀ v ∈ [u6], v.oneCell' = true := by rw [← hu6]; simp [Value.oneCell']
 have HU6 := zh hu6
 clear hu6
 generalize hu7 : Value.int .i64 x4 = u7 at SP
 have on7 : ∀ v ∈ [u7], v.oneCell' = true := by rw [← hu7]; simp [Value.oneCell']
 have HU7 := zh hu7
 clear hu7
 generalize hu8 : Value.int .i64 x5 = u8 at SP
 have on8 : ∀ v ∈ [u8], v.oneCell' = true := by rw [← hu8]; simp [Value.oneCell']
 have HU8 := zh hu8
 clear hu8
 generalize hu9 : Value.slice ga6 x6.length gc6 = u9 at SP
 have on9 : ∀ v ∈ [u9], v.oneCell' = true := by rw [← hu9]; simp [Value.oneCell']
 have HU9 := zh hu9
 clear hu9
 have hone := (one_app (tQuery_one (SP.out.rT 2 rfl)) (one_app on4 (one_app on5 (one_app on6 (one_app on7 (one_app on8 on9))))))
 clear on4 on5 on6 on7 on8 on9
 have ld := cell10 (SP.out.gB 3 rfl)
 have st := rst10 (P := Tryz.prog) (SP.out.gB 4 rfl) hone
 go_wp2
 clear ld st hone
 replace SP := zh (SP.out.store 4 rfl [g0_0, g0_1, g0_2, g0_3, u4, u5, u6, u7, u8, u9])
 generalize Y6.setRow (w.heap.size + 1) #[g0_0, g0_1, g0_2, g0_3, u4, u5, u6, u7, u8, u9] = YY at *
 have ld := cell10 (SP.out.gB 4 rfl)
 have J := SP.out.sub [0, 1, 2] (by decide)
 refine bodyPost_ret (v := .agg #[g0_0, g0_1, g0_2, g0_3, u4, u5, u6, u7, u8, u9]) (by simp [results, Tryz.f127, go_sem, ld]) rfl ?_
 replace J := J.intp x5
 replace J := J.intp x4
 replace J := J.intp x3
 obtain ⟨_, J⟩ := J.cat
 replace J := J.intp x1
 obtain ⟨_, J⟩ := J.cat
 obtain rfl := HU4.out
 obtain rfl := HU5.out
 obtain rfl := HU6.out
 obtain rfl := HU7.out
 obtain rfl := HU8.out
 obtain rfl := HU9.out
 exact ⟨_, rfl, J.outC, SP.out.d⟩
set_option maxHeartbeats 8000000 in
theorem szKS_ActiveS {v : Value} {xs : _} {k0 : Int} {w : World} (h : SlR tActive w v xs) (hk : k0 ≤ 1048576) (hp : 0 ≤ k0) (ho : tActiveS.ok xs) :
  Calls Tryz.prog 51 #[v, .int .i64 k0] w fun e w' => e = .returned (.int .i64 (szR k0 (zL tActive xs))) ∧ Below w.heap.size w w' := by
 have H := zh h
 have OX := zh ho.2
 have hn := ho.1
 obtain ⟨a, cap, rfl⟩ := slR_len h
 clear h ho
 by_cases h1 : k0 < (xs.length : Int)
 ·
  have hneg : k0 - (xs.length : Int) < 0 := by omega
  have HE := zh (szR_n (k := k0) (z := zL tActive xs) (by have := zTo_le (T := tActive) (xs := xs) (Nat.zero_le _); rw [zTo_zero] at this; omega))
  go_enter Tryz.func51, Tryz.ntmps51
  go_wp2
  go_ret
  exact ⟨ty_ret HE.out.symm, Below.refl _ _⟩
 ·
  go_enter Tryz.func51, Tryz.ntmps51
  have hneg : ¬ k0 - (xs.length : Int) < 0 := by omega
  go_wp2
  clear hneg
  go_loopw [1, 5] (fun l i wr => ∃ k : Nat, k ≤ xs.length ∧ i = .int .i64 k ∧ l = .int .i64 (k0 - (zTo tActive xs k : Int)) ∧ (zTo tActive xs k : Int) ≤ k0 ∧ Below w.heap.size w wr) (fun _ i _ => xs.length - (intOf i).toNat)
  case atStart => exact ⟨0, Nat.zero_le _, rfl, by rw [zTo_zero], by rw [zTo_zero]; omega, Below.refl _ _⟩
  case round =>
   obtain ⟨k, hk', rfl, rfl, hle, hbel⟩ := hrel
   by_cases hlt : k < xs.length
   ·
    have HST := zh (zTo_step (T := tActive) hlt)
    have HLE := zh (zTo_le (T := tActive) (xs := xs) (k := k + 1) (by omega))
    have HX := zh (OX.out k hlt)
    have i1 : (0 : Int) ≤ (k : Int) := by omega
    have i2 : (k : Int) < (xs.length : Int) := by omega
    obtain ⟨b, off, cap', cs, hv, hbl, hcs, hR⟩ := slR_at (slR_below tActive_law H.out hbel) hlt
    simp only [Value.slice.injEq] at hv
    obtain ⟨rfl, _, rfl⟩ := hv
    generalize xs.getD k tActive.d = x at *
    obtain ⟨y0, y1, y2, y3, y4, y5, y6, y7, y8, y9, rfl⟩ := len10 (tActive_law.len hR)
    have p := row10 (o := off + k * 10) hcs
    have HR := zh hR
    clear hcs hR
    go_wp2_with fail
    refine (szK_Active (k0 := k0 - (zTo tActive xs k : Int)) (tActive_law.below HR.out (Below.refl _ _)) (by omega) (by omega) HX.out).mono ?_
    rintro e w1 ⟨rfl, b1⟩
    have b2 := hbel.trans (b1.mono hbel.size)
    by_cases hz : ((tActive.sz x : Nat) : Int) ≤ k0 - (zTo tActive xs k : Int)
    ·
     rw [szR_y hz]
     have hneg : ¬ k0 - (zTo tActive xs k : Int) - ((tActive.sz x : Nat) : Int) < 0 := by omega
     have HZ := zh hz
     clear hz
     go_wp2
     go_roundw
     case rel => exact ⟨k + 1, by omega, by go_num, by rw [HST.out]; go_num, by rw [HST.out]; have := HZ.out; omega, b2⟩
     case measure => simp [intOf]; omega
    ·
     rw [szR_n hz]
     have HE := zh (szR_n (k := k0) (z := zL tActive xs) (by have := HST.out; have := HLE.out; omega))
     clear hz
     go_wp2
     go_ret
     exact ⟨ty_ret HE.out.symm, b2⟩
   ·
    obtain rfl : k = xs.length := by omega
    have HE := zh (szR_y (k := k0) (z := zL tActive xs) hle)
    go_wp2
    go_ret
    exact ⟨ty_ret HE.out.symm, hbel⟩
theorem Tryz.kinfo_ActiveS : (Tryz.prog.info? 104).map (fun i => (i.zero, i.size)) = some (some (.agg #[.int .i64 0, .int .i64 0, .slice none 0 0, .slice none 0 0, .int .i64 0, .slice none 0 0, .int .i64 0, .int .i64 0, .int .i64 0, .slice none 0 0]), 10) := by kernel_rfl
theorem Tryz.kbytes_ActiveS : ((Tryz.prog.info? 104).map (fun i => decide (i.bytes ≤ 512))) = some true := by kernel_rfl
set_option maxHeartbeats 8000000 in
theorem toKS_ActiveS {v : Value} {xs : _} {w : World} (h : SlR tActive w v xs) (hs : zL tActive xs ≤ 1048576) :
  Calls Tryz.prog 58 #[v] w (FreshS 104 tActive w xs) := by
 obtain ⟨i0, hi, hz0, hz1⟩ : ∃ i0, Tryz.prog.info? 104 = some i0 ∧ i0.zero = some (.agg #[.int .i64 0, .int .i64 0, .slice none 0 0, .slice none 0 0, .int .i64 0, .slice none 0 0, .int .i64 0, .int .i64 0, .int .i64 0, .slice none 0 0]) ∧ i0.size = 10 := by
  have h0 := Tryz.kinfo_ActiveS
  cases q : Tryz.prog.info? 104 with
  | none => rw [q] at h0; simp at h0
  | some i => rw [q] at h0; simp only [Option.map_some, Option.some.injEq, Prod.mk.injEq] at h0; exact ⟨i, rfl, h0.1, h0.2⟩
 have hz2 : i0.bytes ≤ 512 := by
  have h0 := Tryz.kbytes_ActiveS
  rw [hi] at h0
  simpa using h0
 have HI := zh hi; have HZ0 := zh hz0; have HZ1 := zh hz1; have HZ2 := zh hz2
 clear hi hz0 hz1 hz2
 have H := zh h
 have hlen := zL_len hs
 have HS := zh hs
 obtain ⟨a, cap, rfl⟩ := slR_len h
 clear h hs
 go_enter Tryz.func58, Tryz.ntmps58
 go_wp2_with (at_make; refine wpList_make_full _ rfl (.tmp 6) (.tmp 6) 36 rfl w.heap.size 104 i0 (.agg #[.int .i64 0, .int .i64 0, .slice none 0 0, .slice none 0 0, .int .i64 0, .slice none 0 0, .int .i64 0, .int .i64 0, .int .i64 0, .slice none 0 0]) 10 Tryz.underlying36 HI.out HZ0.out HZ1.out _ _ _ _ xs.length rfl rfl rfl rfl (by have h9 := Nat.mul_le_mul HZ2.out hlen; have h8 := Nat.mul_le_mul hlen HZ2.out; omega) (by unfold maxLen; omega) (Nat.le_refl _) ?_)
 intro w1 hown0 hg0
 have hown1 : SlO 104 tActive w1 (since w) (.slice (some ⟨w.heap.size, 0, none⟩) xs.length xs.length) (List.replicate xs.length tActive.d) := slO_made (z := #[.int .i64 0, .int .i64 0, .slice none 0 0, .slice none 0 0, .int .i64 0, .slice none 0 0, .int .i64 0, .int .i64 0, .int .i64 0, .slice none 0 0]) tActive_law rfl (tActive_zero w1) (Nat.le_refl _) hown0
 have hbel1 := (Below.refl w.heap.size w).grown hg0 (Nat.le_refl _) (fun k hk => by cases hk)
 clear hown0 hg0
 go_wp2
 go_loopw [4] (fun i wr => ∃ k : Nat, k ≤ xs.length ∧ i = .int .i64 k ∧ SlO 104 tActive wr (since w) (.slice (some ⟨w.heap.size, 0, none⟩) xs.length xs.length) (xs.take k ++ List.replicate (xs.length - k) tActive.d) ∧ Below w.heap.size w wr) (fun i _ => xs.length - (intOf i).toNat)
 case atStart => exact ⟨0, Nat.zero_le _, rfl, by simpa using hown1, hbel1⟩
 case round =>
  obtain ⟨k, hk, rfl, hown, hbel⟩ := hrel
  by_cases hlt : k < xs.length
  ·
   have HSET := zh (cTo_step (d := tActive.d) hlt)
   have HKL : k < (xs.take k ++ List.replicate (xs.length - k) tActive.d).length := by rw [cTo_len hk]; exact hlt
   have i1 : (0 : Int) ≤ (k : Int) := by omega
   have i2 : (k : Int) < (xs.length : Int) := by omega
   have S1 := zh (zL_at HS.out hlt)
   obtain ⟨b, off, cap', cs, hv, hbl, hcs, hR⟩ := slR_at (slR_below tActive_law H.out hbel) hlt
   simp only [Value.slice.injEq] at hv
   obtain ⟨rfl, _, rfl⟩ := hv
   obtain ⟨cur, hg, hsz, hput⟩ := slO_fill tActive_law hown HKL
   have HG := zh hg; have HP := zh hput; have HB := zh hbel
   clear HKL hown1 hbel1 hg hput hown hbel
   generalize xs.getD k tActive.d = x at *
   obtain ⟨y0, y1, y2, y3, y4, y5, y6, y7, y8, y9, rfl⟩ := len10 (tActive_law.len hR)
   have p := row10 (o := off + k * 10) hcs
   have HR := zh hR
   clear hcs hR
   go_wp2_with fail
   refine (toK_Active HR.out S1.out).mono ?_
   rintro e w2 ⟨gs, rfl, ow, b2⟩
   obtain ⟨g0, g1, g2, g3, g4, g5, g6, g7, g8, g9, rfl⟩ := len10 (tActive_law.len (tActive_law.reads ow))
   have hgl := (Array.getElem?_eq_some_iff.1 HG.out).1
   have st := fill10 (P := Tryz.prog) (o := k * 10) ((b2.block _ hgl).trans HG.out) hsz (tActive_one (tActive_law.reads ow))
   have HST := zh (HP.out w2 _ _ _ b2 ow (fun b hb => ⟨Nat.le_trans HB.out.size hb, hb⟩))
   rw [HSET.out] at HST
   have B3 := zh (below_turn (HB.out.trans (b2.mono HB.out.size)) (turn_row (b := w.heap.size) (c := putL cur (k * 10) [g0, g1, g2, g3, g4, g5, g6, g7, g8, g9])) (fun b hb => by rw [hb]; exact Nat.le_refl _) (Nat.le_trans HB.out.size b2.size))
   clear hsz hgl b2 ow
   go_wp2
   go_roundw
   case rel => exact ⟨k + 1, by omega, by go_num, HST.out, B3.out⟩
   case measure => simp [intOf]; omega
  ·
   obtain rfl : k = xs.length := by omega
   have HE : Hid (xs.take xs.length ++ List.replicate (xs.length - xs.length) tActive.d = xs) := zh (by simp)
   rw [HE.out] at hown
   go_wp2
   go_ret
   exact ⟨_, rfl, hown, hbel⟩
set_option maxHeartbeats 8000000 in
theorem eqKS_ActiveS {v u : Value} {xs : _} {w : World} (h : SlR tActive w v xs) (g : SlR tActive w u xs) (hs : zL tActive xs ≤ 1048576) :
  Calls Tryz.prog 66 #[v, u] w fun e w' => e = .returned (.bool true) ∧ Below w.heap.size w w' := by
 have H := zh h
 have G := zh g
 have HS := zh hs
 obtain ⟨a, cap, rfl⟩ := slR_len h
 obtain ⟨a2, cap2, rfl⟩ := slR_len g
 have hlen := zL_len hs
 clear h g hs
 go_enter Tryz.func66, Tryz.ntmps66
 go_wp2
 go_loopw [5] (fun i wr => ∃ k : Nat, k ≤ xs.length ∧ i = .int .i64 k ∧ Below w.heap.size w wr) (fun i _ => xs.length - (intOf i).toNat)
 case atStart => exact ⟨0, Nat.zero_le _, rfl, Below.refl _ _⟩
 case round =>
  obtain ⟨k, hk, rfl, hbel⟩ := hrel
  by_cases hlt : k < xs.length
  ·
   obtain ⟨b, off, cap', cs, hv, hbl, hcs, hR⟩ := slR_at (slR_below tActive_law H.out hbel) hlt
   simp only [Value.slice.injEq] at hv
   obtain ⟨rfl, _, rfl⟩ := hv
   obtain ⟨b2, off2, cap2', ds, hv2, hbl2, hds, hQ⟩ := slR_at (slR_below tActive_law G.out hbel) hlt
   simp only [Value.slice.injEq] at hv2
   obtain ⟨rfl, _, rfl⟩ := hv2
   have S1 := zh (zL_at HS.out hlt)
   have i1 : (0 : Int) ≤ (k : Int) := by omega
   have i2 : (k : Int) < (xs.length : Int) := by omega
   generalize xs.getD k tActive.d = x at *
   obtain ⟨y0, y1, y2, y3, y4, y5, y6, y7, y8, y9, rfl⟩ := len10 (tActive_law.len hR)
   obtain ⟨z0, z1, z2, z3, z4, z5, z6, z7, z8, z9, rfl⟩ := len10 (tActive_law.len hQ)
   have p := row10 (o := off + k * 10) hcs; have q := row10 (o := off2 + k * 10) hds
   have HR := zh hR; have HQ := zh hQ; have HB := zh hbel
   clear hcs hds hR hQ hbel
   go_wp2
   go_region_with (first | (go_at_call 139; refine (eqK_Active (by exact tActive_law.below HR.out ⟨rfl, rfl, rfl, Nat.le_refl _, fun _ _ => rfl⟩) (by exact tActive_law.below HQ.out ⟨rfl, rfl, rfl, Nat.le_refl _, fun _ _ => rfl⟩) (leActive_of S1.out)).mono ?_; rintro e w8 ⟨rfl, b9⟩; have b11 := zh (HB.out.trans (Below.mono (B := wr.heap.size) ⟨b9.os, b9.tape, b9.output, b9.size, b9.block⟩ HB.out.size)); clear b9))
   all_goals
    go_wp2
    go_roundw
    case rel => exact ⟨k + 1, by omega, by go_num, b11.out⟩
    case measure => simp [intOf]; omega
  ·
   go_wp2
   go_ret
   exact ⟨rfl, hbel⟩
theorem tFinished_one : tFinished.One := (tPair_one tQuery_one (tPair_one tInt_one (tPair_one tInt_one (tSl_one _ _))))
theorem tFinished_P {w : World} {cs : List Value} {x0 : _} {x1 : _} {x2 : _} {x3 : _} (h : tFinished.R w cs (x0, x1, x2, x3)) : ∃ p0_0 p0_1 p0_2 p0_3 v3, cs = [p0_0, p0_1, p0_2, p0_3, .int .i64 x1, .int .i64 x2, v3] ∧ tQuery.R w [p0_0, p0_1, p0_2, p0_3] x0 ∧ SlR tRow w v3 x3 := by
 obtain ⟨c0, _, rfl, h0, ⟨_, _, rfl, rfl, ⟨_, _, rfl, rfl, ⟨v3, rfl, h3⟩⟩⟩⟩ := h
 obtain ⟨p0_0, p0_1, p0_2, p0_3, rfl⟩ := len4 (tQuery_law.len h0)
 exact ⟨p0_0, p0_1, p0_2, p0_3, v3, rfl, h0, h3⟩
theorem szFinished_eq {x0 : _} {x1 : _} {x2 : _} {x3 : _} : tFinished.sz (x0, x1, x2, x3) = tQuery.sz x0 + zL tRow x3 := by
 simp only [tFinished, tPair_sz, tInt_sz, tSl_sz]; try omega
def leFinished (x : (Int × Int × List (Int × Int × Int) × List Int) × Int × Int × List (Int × List Int)) : Prop := leQuery x.1 ∧ zL tRow x.2.2.2 ≤ 1048576
theorem leFinished_of {x : (Int × Int × List (Int × Int × Int) × List Int) × Int × Int × List (Int × List Int)} (h : tFinished.sz x ≤ 1048576) : leFinished x := by
 obtain ⟨x0, x1, x2, x3⟩ := x
 rw [szFinished_eq] at h
 exact ⟨leQuery_of (show tQuery.sz x0 ≤ _ by omega), by show zL tRow x3 ≤ _; omega⟩
set_option maxHeartbeats 8000000 in
theorem szK_Finished {cs : List Value} {x : _} {k0 : Int} {w : World} (h : tFinished.R w cs x) (hk : k0 ≤ 1048576) (hp : 0 ≤ k0) (ho : tFinished.ok x) :
  Calls Tryz.prog 119 #[.agg cs.toArray, .int .i64 k0] w fun e w' => e = .returned (.int .i64 (szR k0 (tFinished.sz x))) ∧ Below w.heap.size w w' := by
 obtain ⟨x0, x1, x2, x3⟩ := x
 obtain ⟨p0_0, p0_1, p0_2, p0_3, v3, rfl, h0, h3⟩ := tFinished_P h
 rw [szFinished_eq]
 obtain ⟨o0, o1, o2, o3⟩ := ho
 have H0 := zh h0
 have O0 := zh o0
 have H3 := zh h3
 have O3 := zh o3
 clear h0 h3
 clear o0 o1 o2 o3
 have SP := zh ((St.init w).box [p0_0, p0_1, p0_2, p0_3, .int .i64 x1, .int .i64 x2, v3] 153)
 go_enter Tryz.func119, Tryz.ntmps119
 have ld := cell7 (SP.out.gB 0 rfl)
 go_wp2_with fail
 clear ld
 generalize (w.alloc (.cells #[p0_0, p0_1, p0_2, p0_3, .int .i64 x1, .int .i64 x2, v3] 153)) = W0 at *
 refine (szK_Query (tQuery_law.below H0.out SP.out.d) (k0 := k0) (by omega) (by omega) O0.out).mono ?_
 rintro e W1 ⟨rfl, c⟩
 replace SP := zh (SP.out.below c)
 clear c
 by_cases z0 : ((tQuery.sz x0 : Nat) : Int) ≤ k0
 rotate_left
 ·
  rw [szR_n z0]
  have HE := zh (szR_n (k := k0) (z := tQuery.sz x0 + zL tRow x3) (by omega))
  clear z0
  go_wp2
  go_ret
  exact ⟨ty_ret HE.out.symm, SP.out.d⟩
 rw [szR_y z0]
 have n0 : ¬ k0 - ((tQuery.sz x0 : Nat) : Int) < 0 := by omega
 have ld := cell7 (SP.out.gB 0 rfl)
 go_wp2_with fail
 clear ld
 refine (szKS_RowS (slR_below tRow_law H3.out SP.out.d) (k0 := k0 - ((tQuery.sz x0 : Nat) : Int)) (by omega) (by omega) O3.out).mono ?_
 rintro e W2 ⟨rfl, c⟩
 replace SP := zh (SP.out.below c)
 clear c
 by_cases z1 : ((zL tRow x3 : Nat) : Int) ≤ k0 - ((tQuery.sz x0 : Nat) : Int)
 rotate_left
 ·
  rw [szR_n z1]
  have HE := zh (szR_n (k := k0) (z := tQuery.sz x0 + zL tRow x3) (by omega))
  clear z0 z1
  go_wp2
  go_ret
  exact ⟨ty_ret HE.out.symm, SP.out.d⟩
 rw [szR_y z1]
 have n1 : ¬ k0 - ((tQuery.sz x0 : Nat) : Int) - ((zL tRow x3 : Nat) : Int) < 0 := by omega
 have HE : Hid (szR k0 (tQuery.sz x0 + zL tRow x3) = k0 - ((tQuery.sz x0 : Nat) : Int) - ((zL tRow x3 : Nat) : Int)) := zh (by rw [szR_y (by omega)]; try omega)
 go_wp2
 go_ret
 exact ⟨ty_ret HE.out.symm, SP.out.d⟩
set_option maxHeartbeats 8000000 in
theorem eqK_Finished {cs ds : List Value} {x : _} {w : World} (h : tFinished.R w cs x) (g : tFinished.R w ds x) (hs : leFinished x) :
  Calls Tryz.prog 27 #[.agg cs.toArray, .agg ds.toArray] w fun e w' => e = .returned (.bool true) ∧ Below w.heap.size w w' := by
 obtain ⟨x0, x1, x2, x3⟩ := x
 obtain ⟨p0_0, p0_1, p0_2, p0_3, v3, rfl, h0, h3⟩ := tFinished_P h
 obtain ⟨p0_0', p0_1', p0_2', p0_3', v3', rfl, h0', h3'⟩ := tFinished_P g
 obtain ⟨l0, l3⟩ := hs
 have H0 := zh h0; have G0 := zh h0'; have S0 := zh l0
 have H3 := zh h3; have G3 := zh h3'; have S3 := zh l3
 clear h0 h0' h3 h3'
 clear l0 l3
 have e1 : (x1 != x1) = false := by simp
 have e2 : (x2 != x2) = false := by simp
 have SP : Hid (St w [iB (w.heap.size + 1) [p0_0', p0_1', p0_2', p0_3', .int .i64 x1, .int .i64 x2, v3'] 59, iB w.heap.size [p0_0, p0_1, p0_2, p0_3, .int .i64 x1, .int .i64 x2, v3] 59] ((w.alloc (.cells #[p0_0, p0_1, p0_2, p0_3, .int .i64 x1, .int .i64 x2, v3] 59)).alloc (.cells #[p0_0', p0_1', p0_2', p0_3', .int .i64 x1, .int .i64 x2, v3'] 59))) := zh (by have := ((St.init w).box [p0_0, p0_1, p0_2, p0_3, .int .i64 x1, .int .i64 x2, v3] 59).box [p0_0', p0_1', p0_2', p0_3', .int .i64 x1, .int .i64 x2, v3'] 59; simpa only [World.size_alloc] using this)
 go_enter Tryz.func27, Tryz.ntmps27
 have ld := cell7 (SP.out.gB 1 rfl)
 have lc := cell7 (SP.out.gB 0 rfl)
 go_wp2_with fail
 clear ld lc
 generalize ((w.alloc (.cells #[p0_0, p0_1, p0_2, p0_3, .int .i64 x1, .int .i64 x2, v3] 59)).alloc (.cells #[p0_0', p0_1', p0_2', p0_3', .int .i64 x1, .int .i64 x2, v3'] 59)) = W0 at *
 refine (eqK_Query (tQuery_law.below H0.out SP.out.d) (tQuery_law.below G0.out SP.out.d) S0.out).mono ?_
 rintro e W1 ⟨rfl, c⟩
 replace SP := zh (SP.out.below c)
 clear c
 have ld := cell7 (SP.out.gB 1 rfl)
 have lc := cell7 (SP.out.gB 0 rfl)
 go_wp2_with fail
 clear ld lc
 refine (eqKS_RowS (slR_below tRow_law H3.out SP.out.d) (slR_below tRow_law G3.out SP.out.d) S3.out).mono ?_
 rintro e W2 ⟨rfl, c⟩
 replace SP := zh (SP.out.below c)
 clear c
 have ld := cell7 (SP.out.gB 1 rfl)
 have lc := cell7 (SP.out.gB 0 rfl)
 go_wp2
 go_ret
 exact ⟨rfl, SP.out.d⟩
set_option maxHeartbeats 8000000 in
theorem toK_Finished {cs : List Value} {x : _} {w : World} (h : tFinished.R w cs x) (hs : tFinished.sz x ≤ 1048576) :
  Calls Tryz.prog 128 #[.agg cs.toArray] w (FreshT tFinished (fun cs => .agg cs.toArray) w x) := by
 obtain ⟨x0, x1, x2, x3⟩ := x
 obtain ⟨p0_0, p0_1, p0_2, p0_3, v3, rfl, h0, h3⟩ := tFinished_P h
 rw [szFinished_eq] at hs
 have H0 := zh h0; have S0 := zh (show tQuery.sz x0 ≤ 1048576 by omega)
 have H3 := zh h3; have S3 := zh (show zL tRow x3 ≤ 1048576 by omega)
 clear hs h0 h3
 have SP : Hid (St w [iB (w.heap.size + 1 + 1) [.int .i64 0, .int .i64 0, .slice none 0 0, .slice none 0 0, .int .i64 0, .int .i64 0, .slice none 0 0] 59, iB (w.heap.size + 1) [.int .i64 0, .int .i64 0, .slice none 0 0, .slice none 0 0, .int .i64 0, .int .i64 0, .slice none 0 0] 59, iB w.heap.size [p0_0, p0_1, p0_2, p0_3, .int .i64 x1, .int .i64 x2, v3] 153] (((w.alloc (.cells #[p0_0, p0_1, p0_2, p0_3, .int .i64 x1, .int .i64 x2, v3] 153)).alloc (.cells #[.int .i64 0, .int .i64 0, .slice none 0 0, .slice none 0 0, .int .i64 0, .int .i64 0, .slice none 0 0] 59)).alloc (.cells #[.int .i64 0, .int .i64 0, .slice none 0 0, .slice none 0 0, .int .i64 0, .int .i64 0, .slice none 0 0] 59))) := zh (by have := (((St.init w).box [p0_0, p0_1, p0_2, p0_3, .int .i64 x1, .int .i64 x2, v3] 153).box [.int .i64 0, .int .i64 0, .slice none 0 0, .slice none 0 0, .int .i64 0, .int .i64 0, .slice none 0 0] 59).box [.int .i64 0, .int .i64 0, .slice none 0 0, .slice none 0 0, .int .i64 0, .int .i64 0, .slice none 0 0] 59; simpa only [World.size_alloc] using this)
 go_enter Tryz.func128, Tryz.ntmps128
 go_upto_region 2 with fail
 generalize (((w.alloc (.cells #[p0_0, p0_1, p0_2, p0_3, .int .i64 x1, .int .i64 x2, v3] 153)).alloc (.cells #[.int .i64 0, .int .i64 0, .slice none 0 0, .slice none 0 0, .int .i64 0, .int .i64 0, .slice none 0 0] 59)).alloc (.cells #[.int .i64 0, .int .i64 0, .slice none 0 0, .slice none 0 0, .int .i64 0, .int .i64 0, .slice none 0 0] 59)) = W0 at *
 have ld := cell7 (SP.out.gB 2 rfl)
 go_wp2_with fail
 clear ld
 refine (toK_Query (tQuery_law.below H0.out SP.out.d) S0.out).mono ?_
 rintro e V0 ⟨gs, rfl, o, c⟩
 obtain ⟨g0_0, g0_1, g0_2, g0_3, rfl⟩ := len4 (tQuery_law.len (tQuery_law.reads o))
 obtain ⟨F0, sp⟩ := SP.out.pushE tQuery_law c o (fun b h => h)
 replace SP := zh sp
 clear sp o c
 have st0 := store_at (P := Tryz.prog) (j := 0) (SP.out.gB 1 rfl) (by simp) (v := g0_0) (tQuery_one (SP.out.rT 0 rfl) _ (by simp))
 have st1 := store_at (P := Tryz.prog) (j := 1) (setRow_heap V0 (w.heap.size + 1 + 1) _ #[g0_0, .int .i64 0, .slice none 0 0, .slice none 0 0, .int .i64 0, .int .i64 0, .slice none 0 0] 59 (0, 0) (SP.out.gB 1 rfl)) (by simp) (v := g0_1) (tQuery_one (SP.out.rT 0 rfl) _ (by simp))
 rw [setRow_setRow] at st1
 have st2 := store_at (P := Tryz.prog) (j := 2) (setRow_heap V0 (w.heap.size + 1 + 1) _ #[g0_0, g0_1, .slice none 0 0, .slice none 0 0, .int .i64 0, .int .i64 0, .slice none 0 0] 59 (0, 0) (SP.out.gB 1 rfl)) (by simp) (v := g0_2) (tQuery_one (SP.out.rT 0 rfl) _ (by simp))
 rw [setRow_setRow] at st2
 have st3 := store_at (P := Tryz.prog) (j := 3) (setRow_heap V0 (w.heap.size + 1 + 1) _ #[g0_0, g0_1, g0_2, .slice none 0 0, .int .i64 0, .int .i64 0, .slice none 0 0] 59 (0, 0) (SP.out.gB 1 rfl)) (by simp) (v := g0_3) (tQuery_one (SP.out.rT 0 rfl) _ (by simp))
 rw [setRow_setRow] at st3
 simp only [List.setIfInBounds_toArray, List.set_cons_succ, List.set_cons_zero] at st0 st1 st2 st3
 go_upto_region 3 with fail
 clear st0 st1 st2 st3
 replace SP := zh (SP.out.store 1 rfl [g0_0, g0_1, g0_2, g0_3, .int .i64 0, .int .i64 0, .slice none 0 0])
 generalize V0.setRow (w.heap.size + 1 + 1) #[g0_0, g0_1, g0_2, g0_3, .int .i64 0, .int .i64 0, .slice none 0 0] = Y0 at *
 have ld := cell7 (SP.out.gB 3 rfl)
 have le := cell7 (SP.out.gB 1 rfl)
 have fz := froz7 (SP.out.gB 1 rfl)
 go_upto_region 4 with fail
 clear ld le fz
 have e := setCell_box (SP.out.gB 1 rfl) 4 (.int .i64 x1)
 simp only [List.setIfInBounds_toArray, List.set_cons_succ, List.set_cons_zero] at e
 rw [e]
 clear e
 replace SP := zh (SP.out.store 1 rfl [g0_0, g0_1, g0_2, g0_3, .int .i64 x1, .int .i64 0, .slice none 0 0])
 generalize Y0.setRow (w.heap.size + 1 + 1) #[g0_0, g0_1, g0_2, g0_3, .int .i64 x1, .int .i64 0, .slice none 0 0] = Y1 at *
 have ld := cell7 (SP.out.gB 3 rfl)
 have le := cell7 (SP.out.gB 1 rfl)
 have fz := froz7 (SP.out.gB 1 rfl)
 go_upto_region 5 with fail
 clear ld le fz
 have e := setCell_box (SP.out.gB 1 rfl) 5 (.int .i64 x2)
 simp only [List.setIfInBounds_toArray, List.set_cons_succ, List.set_cons_zero] at e
 rw [e]
 clear e
 replace SP := zh (SP.out.store 1 rfl [g0_0, g0_1, g0_2, g0_3, .int .i64 x1, .int .i64 x2, .slice none 0 0])
 generalize Y1.setRow (w.heap.size + 1 + 1) #[g0_0, g0_1, g0_2, g0_3, .int .i64 x1, .int .i64 x2, .slice none 0 0] = Y2 at *
 have ld := cell7 (SP.out.gB 3 rfl)
 go_wp2_with fail
 clear ld
 refine (toKS_RowS (slR_below tRow_law H3.out SP.out.d) S3.out).mono ?_
 rintro e V3 ⟨g3, rfl, o, c⟩
 obtain ⟨ga3, gc3, rfl⟩ := slO_len o
 obtain ⟨F3, sp⟩ := SP.out.pushTE tRow_law tRowS_law c o (fun b h => h)
 replace SP := zh sp
 clear sp o c
 have le := cell7 (SP.out.gB 2 rfl)
 have fz := froz7 (SP.out.gB 2 rfl)
 go_upto_region 6 with fail
 clear le fz
 have e := setCell_box (SP.out.gB 2 rfl) 6 (.slice ga3 x3.length gc3)
 simp only [List.setIfInBounds_toArray, List.set_cons_succ, List.set_cons_zero] at e
 rw [e]
 clear e
 replace SP := zh (SP.out.store 2 rfl [g0_0, g0_1, g0_2, g0_3, .int .i64 x1, .int .i64 x2, .slice ga3 x3.length gc3])
 generalize V3.setRow (w.heap.size + 1 + 1) #[g0_0, g0_1, g0_2, g0_3, .int .i64 x1, .int .i64 x2, .slice ga3 x3.length gc3] = Y3 at *
 generalize hu4 : Value.int .i64 x1 = u4 at SP
 have on4 : ∀ v ∈ [u4], v.oneCell' = true := by rw [← hu4]; simp [Value.oneCell']
 have HU4 := zh hu4
 clear hu4
 generalize hu5 : Value.int .i64 x2 = u5 at SP
 have on5 : ∀ v ∈ [u5], v.oneCell' = true := by rw [← hu5]; simp [Value.oneCell']
 have HU5 := zh hu5
 clear hu5
 generalize hu6 : Value.slice ga3 x3.length gc3 = u6 at SP
 have on6 : ∀ v ∈ [u6], v.oneCell' = true := by rw [← hu6]; simp [Value.oneCell']
 have HU6 := zh hu6
 clear hu6
 have hone := (one_app (tQuery_one (SP.out.rT 1 rfl)) (one_app on4 (one_app on5 on6)))
 clear on4 on5 on6
 have ld := cell7 (SP.out.gB 2 rfl)
 have st := rst7 (P := Tryz.prog) (SP.out.gB 3 rfl) hone
 go_wp2
 clear ld st hone
 replace SP := zh (SP.out.store 3 rfl [g0_0, g0_1, g0_2, g0_3, u4, u5, u6])
 generalize Y3.setRow (w.heap.size + 1) #[g0_0, g0_1, g0_2, g0_3, u4, u5, u6] = YY at *
 have ld := cell7 (SP.out.gB 3 rfl)
 have J := SP.out.sub [0, 1] (by decide)
 refine bodyPost_ret (v := .agg #[g0_0, g0_1, g0_2, g0_3, u4, u5, u6]) (by simp [results, Tryz.f128, go_sem, ld]) rfl ?_
 replace J := J.intp x2
 replace J := J.intp x1
 obtain ⟨_, J⟩ := J.cat
 obtain rfl := HU4.out
 obtain rfl := HU5.out
 obtain rfl := HU6.out
 exact ⟨_, rfl, J.outC, SP.out.d⟩
set_option maxHeartbeats 8000000 in
theorem szKS_FinishedS {v : Value} {xs : _} {k0 : Int} {w : World} (h : SlR tFinished w v xs) (hk : k0 ≤ 1048576) (hp : 0 ≤ k0) (ho : tFinishedS.ok xs) :
  Calls Tryz.prog 52 #[v, .int .i64 k0] w fun e w' => e = .returned (.int .i64 (szR k0 (zL tFinished xs))) ∧ Below w.heap.size w w' := by
 have H := zh h
 have OX := zh ho.2
 have hn := ho.1
 obtain ⟨a, cap, rfl⟩ := slR_len h
 clear h ho
 by_cases h1 : k0 < (xs.length : Int)
 ·
  have hneg : k0 - (xs.length : Int) < 0 := by omega
  have HE := zh (szR_n (k := k0) (z := zL tFinished xs) (by have := zTo_le (T := tFinished) (xs := xs) (Nat.zero_le _); rw [zTo_zero] at this; omega))
  go_enter Tryz.func52, Tryz.ntmps52
  go_wp2
  go_ret
  exact ⟨ty_ret HE.out.symm, Below.refl _ _⟩
 ·
  go_enter Tryz.func52, Tryz.ntmps52
  have hneg : ¬ k0 - (xs.length : Int) < 0 := by omega
  go_wp2
  clear hneg
  go_loopw [1, 5] (fun l i wr => ∃ k : Nat, k ≤ xs.length ∧ i = .int .i64 k ∧ l = .int .i64 (k0 - (zTo tFinished xs k : Int)) ∧ (zTo tFinished xs k : Int) ≤ k0 ∧ Below w.heap.size w wr) (fun _ i _ => xs.length - (intOf i).toNat)
  case atStart => exact ⟨0, Nat.zero_le _, rfl, by rw [zTo_zero], by rw [zTo_zero]; omega, Below.refl _ _⟩
  case round =>
   obtain ⟨k, hk', rfl, rfl, hle, hbel⟩ := hrel
   by_cases hlt : k < xs.length
   ·
    have HST := zh (zTo_step (T := tFinished) hlt)
    have HLE := zh (zTo_le (T := tFinished) (xs := xs) (k := k + 1) (by omega))
    have HX := zh (OX.out k hlt)
    have i1 : (0 : Int) ≤ (k : Int) := by omega
    have i2 : (k : Int) < (xs.length : Int) := by omega
    obtain ⟨b, off, cap', cs, hv, hbl, hcs, hR⟩ := slR_at (slR_below tFinished_law H.out hbel) hlt
    simp only [Value.slice.injEq] at hv
    obtain ⟨rfl, _, rfl⟩ := hv
    generalize xs.getD k tFinished.d = x at *
    obtain ⟨y0, y1, y2, y3, y4, y5, y6, rfl⟩ := len7 (tFinished_law.len hR)
    have p := row7 (o := off + k * 7) hcs
    have HR := zh hR
    clear hcs hR
    go_wp2_with fail
    refine (szK_Finished (k0 := k0 - (zTo tFinished xs k : Int)) (tFinished_law.below HR.out (Below.refl _ _)) (by omega) (by omega) HX.out).mono ?_
    rintro e w1 ⟨rfl, b1⟩
    have b2 := hbel.trans (b1.mono hbel.size)
    by_cases hz : ((tFinished.sz x : Nat) : Int) ≤ k0 - (zTo tFinished xs k : Int)
    ·
     rw [szR_y hz]
     have hneg : ¬ k0 - (zTo tFinished xs k : Int) - ((tFinished.sz x : Nat) : Int) < 0 := by omega
     have HZ := zh hz
     clear hz
     go_wp2
     go_roundw
     case rel => exact ⟨k + 1, by omega, by go_num, by rw [HST.out]; go_num, by rw [HST.out]; have := HZ.out; omega, b2⟩
     case measure => simp [intOf]; omega
    ·
     rw [szR_n hz]
     have HE := zh (szR_n (k := k0) (z := zL tFinished xs) (by have := HST.out; have := HLE.out; omega))
     clear hz
     go_wp2
     go_ret
     exact ⟨ty_ret HE.out.symm, b2⟩
   ·
    obtain rfl : k = xs.length := by omega
    have HE := zh (szR_y (k := k0) (z := zL tFinished xs) hle)
    go_wp2
    go_ret
    exact ⟨ty_ret HE.out.symm, hbel⟩
theorem Tryz.kinfo_FinishedS : (Tryz.prog.info? 59).map (fun i => (i.zero, i.size)) = some (some (.agg #[.int .i64 0, .int .i64 0, .slice none 0 0, .slice none 0 0, .int .i64 0, .int .i64 0, .slice none 0 0]), 7) := by kernel_rfl
theorem Tryz.kbytes_FinishedS : ((Tryz.prog.info? 59).map (fun i => decide (i.bytes ≤ 512))) = some true := by kernel_rfl
set_option maxHeartbeats 8000000 in
theorem toKS_FinishedS {v : Value} {xs : _} {w : World} (h : SlR tFinished w v xs) (hs : zL tFinished xs ≤ 1048576) :
  Calls Tryz.prog 59 #[v] w (FreshS 59 tFinished w xs) := by
 obtain ⟨i0, hi, hz0, hz1⟩ : ∃ i0, Tryz.prog.info? 59 = some i0 ∧ i0.zero = some (.agg #[.int .i64 0, .int .i64 0, .slice none 0 0, .slice none 0 0, .int .i64 0, .int .i64 0, .slice none 0 0]) ∧ i0.size = 7 := by
  have h0 := Tryz.kinfo_FinishedS
  cases q : Tryz.prog.info? 59 with
  | none => rw [q] at h0; simp at h0
  | some i => rw [q] at h0; simp only [Option.map_some, Option.some.injEq, Prod.mk.injEq] at h0; exact ⟨i, rfl, h0.1, h0.2⟩
 have hz2 : i0.bytes ≤ 512 := by
  have h0 := Tryz.kbytes_FinishedS
  rw [hi] at h0
  simpa using h0
 have HI := zh hi; have HZ0 := zh hz0; have HZ1 := zh hz1; have HZ2 := zh hz2
 clear hi hz0 hz1 hz2
 have H := zh h
 have hlen := zL_len hs
 have HS := zh hs
 obtain ⟨a, cap, rfl⟩ := slR_len h
 clear h hs
 go_enter Tryz.func59, Tryz.ntmps59
 go_wp2_with (at_make; refine wpList_make_full _ rfl (.tmp 6) (.tmp 6) 37 rfl w.heap.size 59 i0 (.agg #[.int .i64 0, .int .i64 0, .slice none 0 0, .slice none 0 0, .int .i64 0, .int .i64 0, .slice none 0 0]) 7 Tryz.underlying37 HI.out HZ0.out HZ1.out _ _ _ _ xs.length rfl rfl rfl rfl (by have h9 := Nat.mul_le_mul HZ2.out hlen; have h8 := Nat.mul_le_mul hlen HZ2.out; omega) (by unfold maxLen; omega) (Nat.le_refl _) ?_)
 intro w1 hown0 hg0
 have hown1 : SlO 59 tFinished w1 (since w) (.slice (some ⟨w.heap.size, 0, none⟩) xs.length xs.length) (List.replicate xs.length tFinished.d) := slO_made (z := #[.int .i64 0, .int .i64 0, .slice none 0 0, .slice none 0 0, .int .i64 0, .int .i64 0, .slice none 0 0]) tFinished_law rfl (tFinished_zero w1) (Nat.le_refl _) hown0
 have hbel1 := (Below.refl w.heap.size w).grown hg0 (Nat.le_refl _) (fun k hk => by cases hk)
 clear hown0 hg0
 go_wp2
 go_loopw [4] (fun i wr => ∃ k : Nat, k ≤ xs.length ∧ i = .int .i64 k ∧ SlO 59 tFinished wr (since w) (.slice (some ⟨w.heap.size, 0, none⟩) xs.length xs.length) (xs.take k ++ List.replicate (xs.length - k) tFinished.d) ∧ Below w.heap.size w wr) (fun i _ => xs.length - (intOf i).toNat)
 case atStart => exact ⟨0, Nat.zero_le _, rfl, by simpa using hown1, hbel1⟩
 case round =>
  obtain ⟨k, hk, rfl, hown, hbel⟩ := hrel
  by_cases hlt : k < xs.length
  ·
   have HSET := zh (cTo_step (d := tFinished.d) hlt)
   have HKL : k < (xs.take k ++ List.replicate (xs.length - k) tFinished.d).length := by rw [cTo_len hk]; exact hlt
   have i1 : (0 : Int) ≤ (k : Int) := by omega
   have i2 : (k : Int) < (xs.length : Int) := by omega
   have S1 := zh (zL_at HS.out hlt)
   obtain ⟨b, off, cap', cs, hv, hbl, hcs, hR⟩ := slR_at (slR_below tFinished_law H.out hbel) hlt
   simp only [Value.slice.injEq] at hv
   obtain ⟨rfl, _, rfl⟩ := hv
   obtain ⟨cur, hg, hsz, hput⟩ := slO_fill tFinished_law hown HKL
   have HG := zh hg; have HP := zh hput; have HB := zh hbel
   clear HKL hown1 hbel1 hg hput hown hbel
   generalize xs.getD k tFinished.d = x at *
   obtain ⟨y0, y1, y2, y3, y4, y5, y6, rfl⟩ := len7 (tFinished_law.len hR)
   have p := row7 (o := off + k * 7) hcs
   have HR := zh hR
   clear hcs hR
   go_wp2_with fail
   refine (toK_Finished HR.out S1.out).mono ?_
   rintro e w2 ⟨gs, rfl, ow, b2⟩
   obtain ⟨g0, g1, g2, g3, g4, g5, g6, rfl⟩ := len7 (tFinished_law.len (tFinished_law.reads ow))
   have hgl := (Array.getElem?_eq_some_iff.1 HG.out).1
   have st := fill7 (P := Tryz.prog) (o := k * 7) ((b2.block _ hgl).trans HG.out) hsz (tFinished_one (tFinished_law.reads ow))
   have HST := zh (HP.out w2 _ _ _ b2 ow (fun b hb => ⟨Nat.le_trans HB.out.size hb, hb⟩))
   rw [HSET.out] at HST
   have B3 := zh (below_turn (HB.out.trans (b2.mono HB.out.size)) (turn_row (b := w.heap.size) (c := putL cur (k * 7) [g0, g1, g2, g3, g4, g5, g6])) (fun b hb => by rw [hb]; exact Nat.le_refl _) (Nat.le_trans HB.out.size b2.size))
   clear hsz hgl b2 ow
   go_wp2
   go_roundw
   case rel => exact ⟨k + 1, by omega, by go_num, HST.out, B3.out⟩
   case measure => simp [intOf]; omega
  ·
   obtain rfl : k = xs.length := by omega
   have HE : Hid (xs.take xs.length ++ List.replicate (xs.length - xs.length) tFinished.d = xs) := zh (by simp)
   rw [HE.out] at hown
   go_wp2
   go_ret
   exact ⟨_, rfl, hown, hbel⟩
set_option maxHeartbeats 8000000 in
theorem eqKS_FinishedS {v u : Value} {xs : _} {w : World} (h : SlR tFinished w v xs) (g : SlR tFinished w u xs) (hs : zL tFinished xs ≤ 1048576) :
  Calls Tryz.prog 67 #[v, u] w fun e w' => e = .returned (.bool true) ∧ Below w.heap.size w w' := by
 have H := zh h
 have G := zh g
 have HS := zh hs
 obtain ⟨a, cap, rfl⟩ := slR_len h
 obtain ⟨a2, cap2, rfl⟩ := slR_len g
 have hlen := zL_len hs
 clear h g hs
 go_enter Tryz.func67, Tryz.ntmps67
 go_wp2
 go_loopw [5] (fun i wr => ∃ k : Nat, k ≤ xs.length ∧ i = .int .i64 k ∧ Below w.heap.size w wr) (fun i _ => xs.length - (intOf i).toNat)
 case atStart => exact ⟨0, Nat.zero_le _, rfl, Below.refl _ _⟩
 case round =>
  obtain ⟨k, hk, rfl, hbel⟩ := hrel
  by_cases hlt : k < xs.length
  ·
   obtain ⟨b, off, cap', cs, hv, hbl, hcs, hR⟩ := slR_at (slR_below tFinished_law H.out hbel) hlt
   simp only [Value.slice.injEq] at hv
   obtain ⟨rfl, _, rfl⟩ := hv
   obtain ⟨b2, off2, cap2', ds, hv2, hbl2, hds, hQ⟩ := slR_at (slR_below tFinished_law G.out hbel) hlt
   simp only [Value.slice.injEq] at hv2
   obtain ⟨rfl, _, rfl⟩ := hv2
   have S1 := zh (zL_at HS.out hlt)
   have i1 : (0 : Int) ≤ (k : Int) := by omega
   have i2 : (k : Int) < (xs.length : Int) := by omega
   generalize xs.getD k tFinished.d = x at *
   obtain ⟨y0, y1, y2, y3, y4, y5, y6, rfl⟩ := len7 (tFinished_law.len hR)
   obtain ⟨z0, z1, z2, z3, z4, z5, z6, rfl⟩ := len7 (tFinished_law.len hQ)
   have p := row7 (o := off + k * 7) hcs; have q := row7 (o := off2 + k * 7) hds
   have HR := zh hR; have HQ := zh hQ; have HB := zh hbel
   clear hcs hds hR hQ hbel
   go_wp2
   go_region_with (first | (go_at_call 27; refine (eqK_Finished (by exact tFinished_law.below HR.out ⟨rfl, rfl, rfl, Nat.le_refl _, fun _ _ => rfl⟩) (by exact tFinished_law.below HQ.out ⟨rfl, rfl, rfl, Nat.le_refl _, fun _ _ => rfl⟩) (leFinished_of S1.out)).mono ?_; rintro e w8 ⟨rfl, b9⟩; have b11 := zh (HB.out.trans (Below.mono (B := wr.heap.size) ⟨b9.os, b9.tape, b9.output, b9.size, b9.block⟩ HB.out.size)); clear b9))
   all_goals
    go_wp2
    go_roundw
    case rel => exact ⟨k + 1, by omega, by go_num, b11.out⟩
    case measure => simp [intOf]; omega
  ·
   go_wp2
   go_ret
   exact ⟨rfl, hbel⟩
theorem tCharge_one : tCharge.One := (tPair_one tInt_one (tPair_one tInt_one (tPair_one (tSl_one _ _) (tPair_one (tSl_one _ _) (tSl_one _ _)))))
theorem tCharge_P {w : World} {cs : List Value} {x0 : _} {x1 : _} {x2 : _} {x3 : _} {x4 : _} (h : tCharge.R w cs (x0, x1, x2, x3, x4)) : ∃ v2 v3 v4, cs = [.int .i64 x0, .int .i64 x1, v2, v3, v4] ∧ SlR tInt w v2 x2 ∧ SlR tInt w v3 x3 ∧ SlR tInt w v4 x4 := by
 obtain ⟨_, _, rfl, rfl, ⟨_, _, rfl, rfl, ⟨_, _, rfl, ⟨v2, rfl, h2⟩, ⟨_, _, rfl, ⟨v3, rfl, h3⟩, ⟨v4, rfl, h4⟩⟩⟩⟩⟩ := h
 exact ⟨v2, v3, v4, rfl, h2, h3, h4⟩
theorem szCharge_eq {x0 : _} {x1 : _} {x2 : _} {x3 : _} {x4 : _} : tCharge.sz (x0, x1, x2, x3, x4) = zL tInt x2 + zL tInt x3 + zL tInt x4 := by
 simp only [tCharge, tPair_sz, tInt_sz, tSl_sz]; try omega
def leCharge (x : Int × Int × List Int × List Int × List Int) : Prop := zL tInt x.2.2.1 ≤ 1048576 ∧ zL tInt x.2.2.2.1 ≤ 1048576 ∧ zL tInt x.2.2.2.2 ≤ 1048576
theorem leCharge_of {x : Int × Int × List Int × List Int × List Int} (h : tCharge.sz x ≤ 1048576) : leCharge x := by
 obtain ⟨x0, x1, x2, x3, x4⟩ := x
 rw [szCharge_eq] at h
 exact ⟨by show zL tInt x2 ≤ _; omega, by show zL tInt x3 ≤ _; omega, by show zL tInt x4 ≤ _; omega⟩
set_option maxHeartbeats 8000000 in
theorem szK_Charge {cs : List Value} {x : _} {k0 : Int} {w : World} (h : tCharge.R w cs x) (hk : k0 ≤ 1048576) (hp : 0 ≤ k0) (ho : tCharge.ok x) :
  Calls Tryz.prog 120 #[.agg cs.toArray, .int .i64 k0] w fun e w' => e = .returned (.int .i64 (szR k0 (tCharge.sz x))) ∧ Below w.heap.size w w' := by
 obtain ⟨x0, x1, x2, x3, x4⟩ := x
 obtain ⟨v2, v3, v4, rfl, h2, h3, h4⟩ := tCharge_P h
 rw [szCharge_eq]
 obtain ⟨o0, o1, o2, o3, o4⟩ := ho
 have H2 := zh h2
 have O2 := zh o2
 have H3 := zh h3
 have O3 := zh o3
 have H4 := zh h4
 have O4 := zh o4
 clear h2 h3 h4
 clear o0 o1 o2 o3 o4
 have SP := zh ((St.init w).box [.int .i64 x0, .int .i64 x1, v2, v3, v4] 156)
 go_enter Tryz.func120, Tryz.ntmps120
 have ld := cell5 (SP.out.gB 0 rfl)
 go_wp2_with fail
 clear ld
 generalize (w.alloc (.cells #[.int .i64 x0, .int .i64 x1, v2, v3, v4] 156)) = W0 at *
 refine (szKS_IntS (slR_below tInt_law H2.out SP.out.d) (k0 := k0) (by omega) (by omega) O2.out).mono ?_
 rintro e W1 ⟨rfl, c⟩
 replace SP := zh (SP.out.below c)
 clear c
 by_cases z0 : ((zL tInt x2 : Nat) : Int) ≤ k0
 rotate_left
 ·
  rw [szR_n z0]
  have HE := zh (szR_n (k := k0) (z := zL tInt x2 + zL tInt x3 + zL tInt x4) (by omega))
  clear z0
  go_wp2
  go_ret
  exact ⟨ty_ret HE.out.symm, SP.out.d⟩
 rw [szR_y z0]
 have n0 : ¬ k0 - ((zL tInt x2 : Nat) : Int) < 0 := by omega
 have ld := cell5 (SP.out.gB 0 rfl)
 go_wp2_with fail
 clear ld
 refine (szKS_IntS (slR_below tInt_law H3.out SP.out.d) (k0 := k0 - ((zL tInt x2 : Nat) : Int)) (by omega) (by omega) O3.out).mono ?_
 rintro e W2 ⟨rfl, c⟩
 replace SP := zh (SP.out.below c)
 clear c
 by_cases z1 : ((zL tInt x3 : Nat) : Int) ≤ k0 - ((zL tInt x2 : Nat) : Int)
 rotate_left
 ·
  rw [szR_n z1]
  have HE := zh (szR_n (k := k0) (z := zL tInt x2 + zL tInt x3 + zL tInt x4) (by omega))
  clear z0 z1
  go_wp2
  go_ret
  exact ⟨ty_ret HE.out.symm, SP.out.d⟩
 rw [szR_y z1]
 have n1 : ¬ k0 - ((zL tInt x2 : Nat) : Int) - ((zL tInt x3 : Nat) : Int) < 0 := by omega
 have ld := cell5 (SP.out.gB 0 rfl)
 go_wp2_with fail
 clear ld
 refine (szKS_IntS (slR_below tInt_law H4.out SP.out.d) (k0 := k0 - ((zL tInt x2 : Nat) : Int) - ((zL tInt x3 : Nat) : Int)) (by omega) (by omega) O4.out).mono ?_
 rintro e W3 ⟨rfl, c⟩
 replace SP := zh (SP.out.below c)
 clear c
 by_cases z2 : ((zL tInt x4 : Nat) : Int) ≤ k0 - ((zL tInt x2 : Nat) : Int) - ((zL tInt x3 : Nat) : Int)
 rotate_left
 ·
  rw [szR_n z2]
  have HE := zh (szR_n (k := k0) (z := zL tInt x2 + zL tInt x3 + zL tInt x4) (by omega))
  clear z0 z1 z2
  go_wp2
  go_ret
  exact ⟨ty_ret HE.out.symm, SP.out.d⟩
 rw [szR_y z2]
 have n2 : ¬ k0 - ((zL tInt x2 : Nat) : Int) - ((zL tInt x3 : Nat) : Int) - ((zL tInt x4 : Nat) : Int) < 0 := by omega
 have HE : Hid (szR k0 (zL tInt x2 + zL tInt x3 + zL tInt x4) = k0 - ((zL tInt x2 : Nat) : Int) - ((zL tInt x3 : Nat) : Int) - ((zL tInt x4 : Nat) : Int)) := zh (by rw [szR_y (by omega)]; try omega)
 go_wp2
 go_ret
 exact ⟨ty_ret HE.out.symm, SP.out.d⟩
set_option maxHeartbeats 8000000 in
theorem eqK_Charge {cs ds : List Value} {x : _} {w : World} (h : tCharge.R w cs x) (g : tCharge.R w ds x) (hs : leCharge x) :
  Calls Tryz.prog 140 #[.agg cs.toArray, .agg ds.toArray] w fun e w' => e = .returned (.bool true) ∧ Below w.heap.size w w' := by
 obtain ⟨x0, x1, x2, x3, x4⟩ := x
 obtain ⟨v2, v3, v4, rfl, h2, h3, h4⟩ := tCharge_P h
 obtain ⟨v2', v3', v4', rfl, h2', h3', h4'⟩ := tCharge_P g
 obtain ⟨l2, l3, l4⟩ := hs
 have H2 := zh h2; have G2 := zh h2'; have S2 := zh l2
 have H3 := zh h3; have G3 := zh h3'; have S3 := zh l3
 have H4 := zh h4; have G4 := zh h4'; have S4 := zh l4
 clear h2 h2' h3 h3' h4 h4'
 clear l2 l3 l4
 have e0 : (x0 != x0) = false := by simp
 have e1 : (x1 != x1) = false := by simp
 have SP : Hid (St w [iB (w.heap.size + 1) [.int .i64 x0, .int .i64 x1, v2', v3', v4'] 162, iB w.heap.size [.int .i64 x0, .int .i64 x1, v2, v3, v4] 162] ((w.alloc (.cells #[.int .i64 x0, .int .i64 x1, v2, v3, v4] 162)).alloc (.cells #[.int .i64 x0, .int .i64 x1, v2', v3', v4'] 162))) := zh (by have := ((St.init w).box [.int .i64 x0, .int .i64 x1, v2, v3, v4] 162).box [.int .i64 x0, .int .i64 x1, v2', v3', v4'] 162; simpa only [World.size_alloc] using this)
 go_enter Tryz.func140, Tryz.ntmps140
 have ld := cell5 (SP.out.gB 1 rfl)
 have lc := cell5 (SP.out.gB 0 rfl)
 go_wp2_with fail
 clear ld lc
 generalize ((w.alloc (.cells #[.int .i64 x0, .int .i64 x1, v2, v3, v4] 162)).alloc (.cells #[.int .i64 x0, .int .i64 x1, v2', v3', v4'] 162)) = W0 at *
 refine (eqKS_IntS (slR_below tInt_law H2.out SP.out.d) (slR_below tInt_law G2.out SP.out.d) S2.out).mono ?_
 rintro e W1 ⟨rfl, c⟩
 replace SP := zh (SP.out.below c)
 clear c
 have ld := cell5 (SP.out.gB 1 rfl)
 have lc := cell5 (SP.out.gB 0 rfl)
 go_wp2_with fail
 clear ld lc
 refine (eqKS_IntS (slR_below tInt_law H3.out SP.out.d) (slR_below tInt_law G3.out SP.out.d) S3.out).mono ?_
 rintro e W2 ⟨rfl, c⟩
 replace SP := zh (SP.out.below c)
 clear c
 have ld := cell5 (SP.out.gB 1 rfl)
 have lc := cell5 (SP.out.gB 0 rfl)
 go_wp2_with fail
 clear ld lc
 refine (eqKS_IntS (slR_below tInt_law H4.out SP.out.d) (slR_below tInt_law G4.out SP.out.d) S4.out).mono ?_
 rintro e W3 ⟨rfl, c⟩
 replace SP := zh (SP.out.below c)
 clear c
 have ld := cell5 (SP.out.gB 1 rfl)
 have lc := cell5 (SP.out.gB 0 rfl)
 go_wp2
 go_ret
 exact ⟨rfl, SP.out.d⟩
set_option maxHeartbeats 8000000 in
theorem toK_Charge {cs : List Value} {x : _} {w : World} (h : tCharge.R w cs x) (hs : tCharge.sz x ≤ 1048576) :
  Calls Tryz.prog 129 #[.agg cs.toArray] w (FreshT tCharge (fun cs => .agg cs.toArray) w x) := by
 obtain ⟨x0, x1, x2, x3, x4⟩ := x
 obtain ⟨v2, v3, v4, rfl, h2, h3, h4⟩ := tCharge_P h
 rw [szCharge_eq] at hs
 have H2 := zh h2; have S2 := zh (show zL tInt x2 ≤ 1048576 by omega)
 have H3 := zh h3; have S3 := zh (show zL tInt x3 ≤ 1048576 by omega)
 have H4 := zh h4; have S4 := zh (show zL tInt x4 ≤ 1048576 by omega)
 clear hs h2 h3 h4
 have SP : Hid (St w [iB (w.heap.size + 1 + 1) [.int .i64 0, .int .i64 0, .slice none 0 0, .slice none 0 0, .slice none 0 0] 162, iB (w.heap.size + 1) [.int .i64 0, .int .i64 0, .slice none 0 0, .slice none 0 0, .slice none 0 0] 162, iB w.heap.size [.int .i64 x0, .int .i64 x1, v2, v3, v4] 156] (((w.alloc (.cells #[.int .i64 x0, .int .i64 x1, v2, v3, v4] 156)).alloc (.cells #[.int .i64 0, .int .i64 0, .slice none 0 0, .slice none 0 0, .slice none 0 0] 162)).alloc (.cells #[.int .i64 0, .int .i64 0, .slice none 0 0, .slice none 0 0, .slice none 0 0] 162))) := zh (by have := (((St.init w).box [.int .i64 x0, .int .i64 x1, v2, v3, v4] 156).box [.int .i64 0, .int .i64 0, .slice none 0 0, .slice none 0 0, .slice none 0 0] 162).box [.int .i64 0, .int .i64 0, .slice none 0 0, .slice none 0 0, .slice none 0 0] 162; simpa only [World.size_alloc] using this)
 go_enter Tryz.func129, Tryz.ntmps129
 go_upto_region 2 with fail
 generalize (((w.alloc (.cells #[.int .i64 x0, .int .i64 x1, v2, v3, v4] 156)).alloc (.cells #[.int .i64 0, .int .i64 0, .slice none 0 0, .slice none 0 0, .slice none 0 0] 162)).alloc (.cells #[.int .i64 0, .int .i64 0, .slice none 0 0, .slice none 0 0, .slice none 0 0] 162)) = W0 at *
 have ld := cell5 (SP.out.gB 2 rfl)
 have le := cell5 (SP.out.gB 0 rfl)
 have fz := froz5 (SP.out.gB 0 rfl)
 go_upto_region 3 with fail
 clear ld le fz
 have e := setCell_box (SP.out.gB 0 rfl) 0 (.int .i64 x0)
 simp only [List.setIfInBounds_toArray, List.set_cons_succ, List.set_cons_zero] at e
 rw [e]
 clear e
 replace SP := zh (SP.out.store 0 rfl [.int .i64 x0, .int .i64 0, .slice none 0 0, .slice none 0 0, .slice none 0 0])
 generalize W0.setRow (w.heap.size + 1 + 1) #[.int .i64 x0, .int .i64 0, .slice none 0 0, .slice none 0 0, .slice none 0 0] = Y0 at *
 have ld := cell5 (SP.out.gB 2 rfl)
 have le := cell5 (SP.out.gB 0 rfl)
 have fz := froz5 (SP.out.gB 0 rfl)
 go_upto_region 4 with fail
 clear ld le fz
 have e := setCell_box (SP.out.gB 0 rfl) 1 (.int .i64 x1)
 simp only [List.setIfInBounds_toArray, List.set_cons_succ, List.set_cons_zero] at e
 rw [e]
 clear e
 replace SP := zh (SP.out.store 0 rfl [.int .i64 x0, .int .i64 x1, .slice none 0 0, .slice none 0 0, .slice none 0 0])
 generalize Y0.setRow (w.heap.size + 1 + 1) #[.int .i64 x0, .int .i64 x1, .slice none 0 0, .slice none 0 0, .slice none 0 0] = Y1 at *
 have ld := cell5 (SP.out.gB 2 rfl)
 go_wp2_with fail
 clear ld
 refine (toKS_IntS (slR_below tInt_law H2.out SP.out.d) S2.out).mono ?_
 rintro e V2 ⟨g2, rfl, o, c⟩
 obtain ⟨ga2, gc2, rfl⟩ := slO_len o
 obtain ⟨F2, sp⟩ := SP.out.pushTE tInt_law tIntS_law c o (fun b h => h)
 replace SP := zh sp
 clear sp o c
 have le := cell5 (SP.out.gB 1 rfl)
 have fz := froz5 (SP.out.gB 1 rfl)
 go_upto_region 5 with fail
 clear le fz
 have e := setCell_box (SP.out.gB 1 rfl) 2 (.slice ga2 x2.length gc2)
 simp only [List.setIfInBounds_toArray, List.set_cons_succ, List.set_cons_zero] at e
 rw [e]
 clear e
 replace SP := zh (SP.out.store 1 rfl [.int .i64 x0, .int .i64 x1, .slice ga2 x2.length gc2, .slice none 0 0, .slice none 0 0])
 generalize V2.setRow (w.heap.size + 1 + 1) #[.int .i64 x0, .int .i64 x1, .slice ga2 x2.length gc2, .slice none 0 0, .slice none 0 0] = Y2 at *
 have ld := cell5 (SP.out.gB 3 rfl)
 go_wp2_with fail
 clear ld
 refine (toKS_IntS (slR_below tInt_law H3.out SP.out.d) S3.out).mono ?_
 rintro e V3 ⟨g3, rfl, o, c⟩
 obtain ⟨ga3, gc3, rfl⟩ := slO_len o
 obtain ⟨F3, sp⟩ := SP.out.pushTE tInt_law tIntS_law c o (fun b h => h)
 replace SP := zh sp
 clear sp o c
 have le := cell5 (SP.out.gB 2 rfl)
 have fz := froz5 (SP.out.gB 2 rfl)
 go_upto_region 6 with fail
 clear le fz
 have e := setCell_box (SP.out.gB 2 rfl) 3 (.slice ga3 x3.length gc3)
 simp only [List.setIfInBounds_toArray, List.set_cons_succ, List.set_cons_zero] at e
 rw [e]
 clear e
 replace SP := zh (SP.out.store 2 rfl [.int .i64 x0, .int .i64 x1, .slice ga2 x2.length gc2, .slice ga3 x3.length gc3, .slice none 0 0])
 generalize V3.setRow (w.heap.size + 1 + 1) #[.int .i64 x0, .int .i64 x1, .slice ga2 x2.length gc2, .slice ga3 x3.length gc3, .slice none 0 0] = Y3 at *
 have ld := cell5 (SP.out.gB 4 rfl)
 go_wp2_with fail
 clear ld
 refine (toKS_IntS (slR_below tInt_law H4.out SP.out.d) S4.out).mono ?_
 rintro e V4 ⟨g4, rfl, o, c⟩
 obtain ⟨ga4, gc4, rfl⟩ := slO_len o
 obtain ⟨F4, sp⟩ := SP.out.pushTE tInt_law tIntS_law c o (fun b h => h)
 replace SP := zh sp
 clear sp o c
 have le := cell5 (SP.out.gB 3 rfl)
 have fz := froz5 (SP.out.gB 3 rfl)
 go_upto_region 7 with fail
 clear le fz
 have e := setCell_box (SP.out.gB 3 rfl) 4 (.slice ga4 x4.length gc4)
 simp only [List.setIfInBounds_toArray, List.set_cons_succ, List.set_cons_zero] at e
 rw [e]
 clear e
 replace SP := zh (SP.out.store 3 rfl [.int .i64 x0, .int .i64 x1, .slice ga2 x2.length gc2, .slice ga3 x3.length gc3, .slice ga4 x4.length gc4])
 generalize V4.setRow (w.heap.size + 1 + 1) #[.int .i64 x0, .int .i64 x1, .slice ga2 x2.length gc2, .slice ga3 x3.length gc3, .slice ga4 x4.length gc4] = Y4 at *
 generalize hu0 : Value.int .i64 x0 = u0 at SP
 have on0 : ∀ v ∈ [u0], v.oneCell' = true := by rw [← hu0]; simp [Value.oneCell']
 have HU0 := zh hu0
 clear hu0
 generalize hu1 : Value.int .i64 x1 = u1 at SP
 have on1 : ∀ v ∈ [u1], v.oneCell' = true := by rw [← hu1]; simp [Value.oneCell']
 have HU1 := zh hu1
 clear hu1
 generalize hu2 : Value.slice ga2 x2.length gc2 = u2 at SP
 have on2 : ∀ v ∈ [u2], v.oneCell' = true := by rw [← hu2]; simp [Value.oneCell']
 have HU2 := zh hu2
 clear hu2
 generalize hu3 : Value.slice ga3 x3.length gc3 = u3 at SP
 have on3 : ∀ v ∈ [u3], v.oneCell' = true := by rw [← hu3]; simp [Value.oneCell']
 have HU3 := zh hu3
 clear hu3
 generalize hu4 : Value.slice ga4 x4.length gc4 = u4 at SP
 have on4 : ∀ v ∈ [u4], v.oneCell' = true := by rw [← hu4]; simp [Value.oneCell']
 have HU4 := zh hu4
 clear hu4
 have hone := (one_app on0 (one_app on1 (one_app on2 (one_app on3 on4))))
 clear on0 on1 on2 on3 on4
 have ld := cell5 (SP.out.gB 3 rfl)
 have st := rst5 (P := Tryz.prog) (SP.out.gB 4 rfl) hone
 go_wp2
 clear ld st hone
 replace SP := zh (SP.out.store 4 rfl [u0, u1, u2, u3, u4])
 generalize Y4.setRow (w.heap.size + 1) #[u0, u1, u2, u3, u4] = YY at *
 have ld := cell5 (SP.out.gB 4 rfl)
 have J := SP.out.sub [0, 1, 2] (by decide)
 refine bodyPost_ret (v := .agg #[u0, u1, u2, u3, u4]) (by simp [results, Tryz.f129, go_sem, ld]) rfl ?_
 obtain ⟨_, J⟩ := J.cat
 obtain ⟨_, J⟩ := J.cat
 replace J := J.intp x1
 replace J := J.intp x0
 obtain rfl := HU0.out
 obtain rfl := HU1.out
 obtain rfl := HU2.out
 obtain rfl := HU3.out
 obtain rfl := HU4.out
 exact ⟨_, rfl, J.outC, SP.out.d⟩
set_option maxHeartbeats 8000000 in
theorem szKS_ChargeS {v : Value} {xs : _} {k0 : Int} {w : World} (h : SlR tCharge w v xs) (hk : k0 ≤ 1048576) (hp : 0 ≤ k0) (ho : tChargeS.ok xs) :
  Calls Tryz.prog 53 #[v, .int .i64 k0] w fun e w' => e = .returned (.int .i64 (szR k0 (zL tCharge xs))) ∧ Below w.heap.size w w' := by
 have H := zh h
 have OX := zh ho.2
 have hn := ho.1
 obtain ⟨a, cap, rfl⟩ := slR_len h
 clear h ho
 by_cases h1 : k0 < (xs.length : Int)
 ·
  have hneg : k0 - (xs.length : Int) < 0 := by omega
  have HE := zh (szR_n (k := k0) (z := zL tCharge xs) (by have := zTo_le (T := tCharge) (xs := xs) (Nat.zero_le _); rw [zTo_zero] at this; omega))
  go_enter Tryz.func53, Tryz.ntmps53
  go_wp2
  go_ret
  exact ⟨ty_ret HE.out.symm, Below.refl _ _⟩
 ·
  go_enter Tryz.func53, Tryz.ntmps53
  have hneg : ¬ k0 - (xs.length : Int) < 0 := by omega
  go_wp2
  clear hneg
  go_loopw [1, 5] (fun l i wr => ∃ k : Nat, k ≤ xs.length ∧ i = .int .i64 k ∧ l = .int .i64 (k0 - (zTo tCharge xs k : Int)) ∧ (zTo tCharge xs k : Int) ≤ k0 ∧ Below w.heap.size w wr) (fun _ i _ => xs.length - (intOf i).toNat)
  case atStart => exact ⟨0, Nat.zero_le _, rfl, by rw [zTo_zero], by rw [zTo_zero]; omega, Below.refl _ _⟩
  case round =>
   obtain ⟨k, hk', rfl, rfl, hle, hbel⟩ := hrel
   by_cases hlt : k < xs.length
   ·
    have HST := zh (zTo_step (T := tCharge) hlt)
    have HLE := zh (zTo_le (T := tCharge) (xs := xs) (k := k + 1) (by omega))
    have HX := zh (OX.out k hlt)
    have i1 : (0 : Int) ≤ (k : Int) := by omega
    have i2 : (k : Int) < (xs.length : Int) := by omega
    obtain ⟨b, off, cap', cs, hv, hbl, hcs, hR⟩ := slR_at (slR_below tCharge_law H.out hbel) hlt
    simp only [Value.slice.injEq] at hv
    obtain ⟨rfl, _, rfl⟩ := hv
    generalize xs.getD k tCharge.d = x at *
    obtain ⟨y0, y1, y2, y3, y4, rfl⟩ := len5 (tCharge_law.len hR)
    have p := row5 (o := off + k * 5) hcs
    have HR := zh hR
    clear hcs hR
    go_wp2_with fail
    refine (szK_Charge (k0 := k0 - (zTo tCharge xs k : Int)) (tCharge_law.below HR.out (Below.refl _ _)) (by omega) (by omega) HX.out).mono ?_
    rintro e w1 ⟨rfl, b1⟩
    have b2 := hbel.trans (b1.mono hbel.size)
    by_cases hz : ((tCharge.sz x : Nat) : Int) ≤ k0 - (zTo tCharge xs k : Int)
    ·
     rw [szR_y hz]
     have hneg : ¬ k0 - (zTo tCharge xs k : Int) - ((tCharge.sz x : Nat) : Int) < 0 := by omega
     have HZ := zh hz
     clear hz
     go_wp2
     go_roundw
     case rel => exact ⟨k + 1, by omega, by go_num, by rw [HST.out]; go_num, by rw [HST.out]; have := HZ.out; omega, b2⟩
     case measure => simp [intOf]; omega
    ·
     rw [szR_n hz]
     have HE := zh (szR_n (k := k0) (z := zL tCharge xs) (by have := HST.out; have := HLE.out; omega))
     clear hz
     go_wp2
     go_ret
     exact ⟨ty_ret HE.out.symm, b2⟩
   ·
    obtain rfl : k = xs.length := by omega
    have HE := zh (szR_y (k := k0) (z := zL tCharge xs) hle)
    go_wp2
    go_ret
    exact ⟨ty_ret HE.out.symm, hbel⟩
theorem Tryz.kinfo_ChargeS : (Tryz.prog.info? 162).map (fun i => (i.zero, i.size)) = some (some (.agg #[.int .i64 0, .int .i64 0, .slice none 0 0, .slice none 0 0, .slice none 0 0]), 5) := by kernel_rfl
theorem Tryz.kbytes_ChargeS : ((Tryz.prog.info? 162).map (fun i => decide (i.bytes ≤ 512))) = some true := by kernel_rfl
set_option maxHeartbeats 8000000 in
theorem toKS_ChargeS {v : Value} {xs : _} {w : World} (h : SlR tCharge w v xs) (hs : zL tCharge xs ≤ 1048576) :
  Calls Tryz.prog 60 #[v] w (FreshS 162 tCharge w xs) := by
 obtain ⟨i0, hi, hz0, hz1⟩ : ∃ i0, Tryz.prog.info? 162 = some i0 ∧ i0.zero = some (.agg #[.int .i64 0, .int .i64 0, .slice none 0 0, .slice none 0 0, .slice none 0 0]) ∧ i0.size = 5 := by
  have h0 := Tryz.kinfo_ChargeS
  cases q : Tryz.prog.info? 162 with
  | none => rw [q] at h0; simp at h0
  | some i => rw [q] at h0; simp only [Option.map_some, Option.some.injEq, Prod.mk.injEq] at h0; exact ⟨i, rfl, h0.1, h0.2⟩
 have hz2 : i0.bytes ≤ 512 := by
  have h0 := Tryz.kbytes_ChargeS
  rw [hi] at h0
  simpa using h0
 have HI := zh hi; have HZ0 := zh hz0; have HZ1 := zh hz1; have HZ2 := zh hz2
 clear hi hz0 hz1 hz2
 have H := zh h
 have hlen := zL_len hs
 have HS := zh hs
 obtain ⟨a, cap, rfl⟩ := slR_len h
 clear h hs
 go_enter Tryz.func60, Tryz.ntmps60
 go_wp2_with (at_make; refine wpList_make_full _ rfl (.tmp 6) (.tmp 6) 38 rfl w.heap.size 162 i0 (.agg #[.int .i64 0, .int .i64 0, .slice none 0 0, .slice none 0 0, .slice none 0 0]) 5 Tryz.underlying38 HI.out HZ0.out HZ1.out _ _ _ _ xs.length rfl rfl rfl rfl (by have h9 := Nat.mul_le_mul HZ2.out hlen; have h8 := Nat.mul_le_mul hlen HZ2.out; omega) (by unfold maxLen; omega) (Nat.le_refl _) ?_)
 intro w1 hown0 hg0
 have hown1 : SlO 162 tCharge w1 (since w) (.slice (some ⟨w.heap.size, 0, none⟩) xs.length xs.length) (List.replicate xs.length tCharge.d) := slO_made (z := #[.int .i64 0, .int .i64 0, .slice none 0 0, .slice none 0 0, .slice none 0 0]) tCharge_law rfl (tCharge_zero w1) (Nat.le_refl _) hown0
 have hbel1 := (Below.refl w.heap.size w).grown hg0 (Nat.le_refl _) (fun k hk => by cases hk)
 clear hown0 hg0
 go_wp2
 go_loopw [4] (fun i wr => ∃ k : Nat, k ≤ xs.length ∧ i = .int .i64 k ∧ SlO 162 tCharge wr (since w) (.slice (some ⟨w.heap.size, 0, none⟩) xs.length xs.length) (xs.take k ++ List.replicate (xs.length - k) tCharge.d) ∧ Below w.heap.size w wr) (fun i _ => xs.length - (intOf i).toNat)
 case atStart => exact ⟨0, Nat.zero_le _, rfl, by simpa using hown1, hbel1⟩
 case round =>
  obtain ⟨k, hk, rfl, hown, hbel⟩ := hrel
  by_cases hlt : k < xs.length
  ·
   have HSET := zh (cTo_step (d := tCharge.d) hlt)
   have HKL : k < (xs.take k ++ List.replicate (xs.length - k) tCharge.d).length := by rw [cTo_len hk]; exact hlt
   have i1 : (0 : Int) ≤ (k : Int) := by omega
   have i2 : (k : Int) < (xs.length : Int) := by omega
   have S1 := zh (zL_at HS.out hlt)
   obtain ⟨b, off, cap', cs, hv, hbl, hcs, hR⟩ := slR_at (slR_below tCharge_law H.out hbel) hlt
   simp only [Value.slice.injEq] at hv
   obtain ⟨rfl, _, rfl⟩ := hv
   obtain ⟨cur, hg, hsz, hput⟩ := slO_fill tCharge_law hown HKL
   have HG := zh hg; have HP := zh hput; have HB := zh hbel
   clear HKL hown1 hbel1 hg hput hown hbel
   generalize xs.getD k tCharge.d = x at *
   obtain ⟨y0, y1, y2, y3, y4, rfl⟩ := len5 (tCharge_law.len hR)
   have p := row5 (o := off + k * 5) hcs
   have HR := zh hR
   clear hcs hR
   go_wp2_with fail
   refine (toK_Charge HR.out S1.out).mono ?_
   rintro e w2 ⟨gs, rfl, ow, b2⟩
   obtain ⟨g0, g1, g2, g3, g4, rfl⟩ := len5 (tCharge_law.len (tCharge_law.reads ow))
   have hgl := (Array.getElem?_eq_some_iff.1 HG.out).1
   have st := fill5 (P := Tryz.prog) (o := k * 5) ((b2.block _ hgl).trans HG.out) hsz (tCharge_one (tCharge_law.reads ow))
   have HST := zh (HP.out w2 _ _ _ b2 ow (fun b hb => ⟨Nat.le_trans HB.out.size hb, hb⟩))
   rw [HSET.out] at HST
   have B3 := zh (below_turn (HB.out.trans (b2.mono HB.out.size)) (turn_row (b := w.heap.size) (c := putL cur (k * 5) [g0, g1, g2, g3, g4])) (fun b hb => by rw [hb]; exact Nat.le_refl _) (Nat.le_trans HB.out.size b2.size))
   clear hsz hgl b2 ow
   go_wp2
   go_roundw
   case rel => exact ⟨k + 1, by omega, by go_num, HST.out, B3.out⟩
   case measure => simp [intOf]; omega
  ·
   obtain rfl : k = xs.length := by omega
   have HE : Hid (xs.take xs.length ++ List.replicate (xs.length - xs.length) tCharge.d = xs) := zh (by simp)
   rw [HE.out] at hown
   go_wp2
   go_ret
   exact ⟨_, rfl, hown, hbel⟩
set_option maxHeartbeats 8000000 in
theorem eqKS_ChargeS {v u : Value} {xs : _} {w : World} (h : SlR tCharge w v xs) (g : SlR tCharge w u xs) (hs : zL tCharge xs ≤ 1048576) :
  Calls Tryz.prog 68 #[v, u] w fun e w' => e = .returned (.bool true) ∧ Below w.heap.size w w' := by
 have H := zh h
 have G := zh g
 have HS := zh hs
 obtain ⟨a, cap, rfl⟩ := slR_len h
 obtain ⟨a2, cap2, rfl⟩ := slR_len g
 have hlen := zL_len hs
 clear h g hs
 go_enter Tryz.func68, Tryz.ntmps68
 go_wp2
 go_loopw [5] (fun i wr => ∃ k : Nat, k ≤ xs.length ∧ i = .int .i64 k ∧ Below w.heap.size w wr) (fun i _ => xs.length - (intOf i).toNat)
 case atStart => exact ⟨0, Nat.zero_le _, rfl, Below.refl _ _⟩
 case round =>
  obtain ⟨k, hk, rfl, hbel⟩ := hrel
  by_cases hlt : k < xs.length
  ·
   obtain ⟨b, off, cap', cs, hv, hbl, hcs, hR⟩ := slR_at (slR_below tCharge_law H.out hbel) hlt
   simp only [Value.slice.injEq] at hv
   obtain ⟨rfl, _, rfl⟩ := hv
   obtain ⟨b2, off2, cap2', ds, hv2, hbl2, hds, hQ⟩ := slR_at (slR_below tCharge_law G.out hbel) hlt
   simp only [Value.slice.injEq] at hv2
   obtain ⟨rfl, _, rfl⟩ := hv2
   have S1 := zh (zL_at HS.out hlt)
   have i1 : (0 : Int) ≤ (k : Int) := by omega
   have i2 : (k : Int) < (xs.length : Int) := by omega
   generalize xs.getD k tCharge.d = x at *
   obtain ⟨y0, y1, y2, y3, y4, rfl⟩ := len5 (tCharge_law.len hR)
   obtain ⟨z0, z1, z2, z3, z4, rfl⟩ := len5 (tCharge_law.len hQ)
   have p := row5 (o := off + k * 5) hcs; have q := row5 (o := off2 + k * 5) hds
   have HR := zh hR; have HQ := zh hQ; have HB := zh hbel
   clear hcs hds hR hQ hbel
   go_wp2
   go_region_with (first | (go_at_call 140; refine (eqK_Charge (by exact tCharge_law.below HR.out ⟨rfl, rfl, rfl, Nat.le_refl _, fun _ _ => rfl⟩) (by exact tCharge_law.below HQ.out ⟨rfl, rfl, rfl, Nat.le_refl _, fun _ _ => rfl⟩) (leCharge_of S1.out)).mono ?_; rintro e w8 ⟨rfl, b9⟩; have b11 := zh (HB.out.trans (Below.mono (B := wr.heap.size) ⟨b9.os, b9.tape, b9.output, b9.size, b9.block⟩ HB.out.size)); clear b9))
   all_goals
    go_wp2
    go_roundw
    case rel => exact ⟨k + 1, by omega, by go_num, b11.out⟩
    case measure => simp [intOf]; omega
  ·
   go_wp2
   go_ret
   exact ⟨rfl, hbel⟩
end Go.Proofs.YtnepfacnmaoieaaGreatDoor
