/-
 Texts of the proof, merged: Pk, PkN.
-/
import Derived.Test.YtnepfacnmaoieaaGreatDoorPK1
import Derived.Laws.Cells
import Derived.Laws.CopyRow
namespace Go.Proofs.YtnepfacnmaoieaaGreatDoor
open Go.RowKit
set_option linter.unusedVariables false
set_option linter.unusedSimpArgs false
/-- Something that lies in blocks of its own. -/
structure Item where
 F : Nat → Prop
 φ : World → Prop
 st : ∀ {w w' : World} {G : Nat → Prop}, φ w → Turn G w w' → (∀ b, F b → ¬ G b) → φ w'
/-- A datum by its cells. -/
def iT {α : Type} {T : Ty α} (L : T.Law) (F : Nat → Prop) (cs : List Value) (x : α) : Item := ⟨F, fun w => T.O w F cs x, fun h t d => L.turn h t d⟩
/-- A slice. -/
def iS {α : Type} {T : Ty α} (e : TypeId) (L : T.Law) (F : Nat → Prop) (v : Value) (xs : List α) : Item := ⟨F, fun w => SlO e T w F v xs, fun h t d => slO_turn L h t d⟩
/-- A block known whole. -/
def iB (b : Nat) (cs : List Value) (t : TypeId) : Item :=
 ⟨fun k => k = b, fun w => w.heap[b]? = some (.cells cs.toArray t (0, 0)), fun h t d => (t.block b (Array.getElem?_eq_some_iff.1 h).1 (d b rfl)).trans h⟩
def Sep : List Item → World → Prop
 | [], _ => True
 | i :: l, w => i.φ w ∧ (∀ b, i.F b → b < w.heap.size ∧ ∀ j, j ∈ l → ¬ j.F b) ∧ Sep l w
theorem Sep.lt : ∀ {l : List Item} {w : World}, Sep l w → ∀ i ∈ l, ∀ b, i.F b → b < w.heap.size
 | _ :: _, _, h, i, hi, b, hb => by
  rcases List.mem_cons.1 hi with rfl | hm
  ·
   exact (h.2.1 b hb).1
  ·
   exact Sep.lt h.2.2 i hm b hb
theorem Sep.turn : ∀ {l : List Item} {w w' : World} {G : Nat → Prop}, Sep l w → Turn G w w' → (∀ i ∈ l, ∀ b, i.F b → ¬ G b) → Sep l w'
 | [], _, _, _, _, _, _ => trivial
 | i :: l, w, w', G, h, t, d => ⟨i.st h.1 t (d i List.mem_cons_self), fun b hb => ⟨Nat.lt_of_lt_of_le (h.2.1 b hb).1 t.size, (h.2.1 b hb).2⟩, Sep.turn h.2.2 t (fun j hj => d j (List.mem_cons_of_mem _ hj))⟩
theorem Sep.get : ∀ {l : List Item} {w : World}, Sep l w → ∀ (k : Nat) {i : Item}, l[k]? = some i → i.φ w
 | i :: l, w, h, 0, j, e => by simp at e; subst e; exact h.1
 | i :: l, w, h, k + 1, j, e => Sep.get h.2.2 k (by simpa using e)
theorem Sep.apart : ∀ {l : List Item} {w : World}, Sep l w → ∀ (k : Nat) {i : Item}, l[k]? = some i → ∀ (n : Nat) {j : Item}, l[n]? = some j → k ≠ n → ∀ b, i.F b → ¬ j.F b
 | i :: l, w, h, 0, x, e, 0, y, e', hn, b, hb => absurd rfl hn
 | i :: l, w, h, 0, x, e, n + 1, y, e', hn, b, hb => by simp at e e'; subst e; exact (h.2.1 b hb).2 y (List.mem_of_getElem? e')
 | i :: l, w, h, k + 1, x, e, 0, y, e', hn, b, hb => by simp at e e'; subst e'; exact fun hy => (h.2.1 b hy).2 x (List.mem_of_getElem? e) hb
 | i :: l, w, h, k + 1, x, e, n + 1, y, e', hn, b, hb => by simp at e e'; exact Sep.apart h.2.2 k e n e' (fun q => hn (by rw [q])) b hb
theorem Sep.set : ∀ {l : List Item} {w w' : World}, Sep l w → ∀ (k : Nat) {i : Item}, l[k]? = some i → ∀ (i' : Item), (∀ b, i'.F b → i.F b) → Turn i.F w w' → i'.φ w' → Sep (l.set k i') w'
 | i :: l, w, w', h, 0, x, e, i', hF, t, hp => by
  simp at e; subst e
  exact ⟨hp, fun b hb => ⟨Nat.lt_of_lt_of_le (h.2.1 b (hF b hb)).1 t.size, (h.2.1 b (hF b hb)).2⟩, h.2.2.turn t (fun j hj b hb hc => (h.2.1 b hc).2 j hj hb)⟩
 | i :: l, w, w', h, k + 1, x, e, i', hF, t, hp => by
  simp at e
  have hx := List.mem_of_getElem? e
  refine ⟨i.st h.1 t (fun b hb => (h.2.1 b hb).2 x hx), fun b hb => ⟨Nat.lt_of_lt_of_le (h.2.1 b hb).1 t.size, fun j hj => ?_⟩, Sep.set h.2.2 k e i' hF t hp⟩
  rcases List.mem_or_eq_of_mem_set hj with q | rfl
  ·
   exact (h.2.1 b hb).2 j q
  ·
   exact fun q => (h.2.1 b hb).2 x hx (hF b q)
/-- Where a walk stands: since w0 it has turned nothing that was there, and owns what is listed. -/
structure St (w0 : World) (l : List Item) (w : World) : Prop where
 d : Below w0.heap.size w0 w
 s : Sep l w
 lo : ∀ i ∈ l, ∀ b, i.F b → w0.heap.size ≤ b
theorem St.init (w : World) : St w [] w := ⟨Below.refl _ _, trivial, fun _ h => by cases h⟩
section
variable {w0 w w' : World} {l : List Item}
theorem St.le (h : St w0 l w) : w0.heap.size ≤ w.heap.size := h.d.size
theorem St.below (h : St w0 l w) (c : Below w.heap.size w w') : St w0 l w' :=
 ⟨h.d.trans (c.mono h.d.size), h.s.turn (turn_below c) (fun _ _ _ _ => not_false), h.lo⟩
theorem St.drew (h : St w0 l w) : St w0 l w.drew := h.below ⟨rfl, rfl, rfl, Nat.le_refl _, fun _ _ => rfl⟩
theorem St.cons (h : St w0 l w) (c : Below w.heap.size w w') (i : Item) (hi : i.φ w') (hF : ∀ b, i.F b → w.heap.size ≤ b ∧ b < w'.heap.size) : St w0 (i :: l) w' :=
 ⟨(h.below c).d, ⟨hi, fun b hb => ⟨(hF b hb).2, fun j hj q => by have h1 := h.s.lt j hj b q; have h2 := (hF b hb).1; omega⟩, (h.below c).s⟩, fun j hj b hb => by
  rcases List.mem_cons.1 hj with rfl | hm
  ·
   exact Nat.le_trans h.d.size (hF b hb).1
  ·
   exact h.lo j hm b hb⟩
theorem St.push {α : Type} {T : Ty α} (L : T.Law) (h : St w0 l w) (c : Below w.heap.size w w') {G : Nat → Prop} {cs : List Value} {x : α} (o : T.O w' G cs x) (hG : ∀ b, G b → w.heap.size ≤ b) : St w0 (iT L (fun b => G b ∧ b < w'.heap.size) cs x :: l) w' :=
 h.cons c _ (L.lt o) (fun b hb => ⟨hG b hb.1, hb.2⟩)
theorem St.box (h : St w0 l w) (cs : List Value) (t : TypeId) : St w0 (iB w.heap.size cs t :: l) (w.alloc (.cells cs.toArray t)) :=
 h.cons ((Below.refl _ _).alloc (Nat.le_refl _) _) (iB w.heap.size cs t) (heap_alloc_new w _) (fun b hb => by have hb : b = w.heap.size := hb; subst hb; exact ⟨Nat.le_refl _, by rw [World.size_alloc]; omega⟩)
theorem St.pushE {α : Type} {T : Ty α} (L : T.Law) (h : St w0 l w) (c : Below w.heap.size w w') {G : Nat → Prop} {cs : List Value} {x : α} (o : T.O w' G cs x) (hG : ∀ b, G b → w.heap.size ≤ b) : ∃ F, St w0 (iT L F cs x :: l) w' := ⟨_, h.push L c o hG⟩
theorem St.get (h : St w0 l w) (k : Nat) {i : Item} (e : l[k]? = some i) : i.φ w := h.s.get k e
theorem St.set (h : St w0 l w) (k : Nat) {i : Item} (e : l[k]? = some i) (i' : Item) (hF : ∀ b, i'.F b → i.F b) (t : Turn i.F w w') (hp : i'.φ w') : St w0 (l.set k i') w' :=
 ⟨below_turn h.d t (fun b hb => h.lo i (List.mem_of_getElem? e) b hb) h.d.size, h.s.set k e i' hF t hp, fun j hj b hb => by
  rcases List.mem_or_eq_of_mem_set hj with q | rfl
  ·
   exact h.lo j q b hb
  ·
   exact h.lo i (List.mem_of_getElem? e) b (hF b hb)⟩
theorem Sep.sub {l : List Item} {w : World} (h : Sep l w) : ∀ (idx : List Nat), idx.Nodup → Sep (idx.filterMap fun i => l[i]?) w
 | [], _ => trivial
 | k :: idx, hn => by
  have ih := Sep.sub h idx (List.nodup_cons.1 hn).2
  cases e : l[k]? with
  | none => rw [List.filterMap_cons_none e]; exact ih
  | some i =>
   rw [List.filterMap_cons_some e]
   refine ⟨h.get k e, fun b hb => ⟨h.lt i (List.mem_of_getElem? e) b hb, fun j hj => ?_⟩, ih⟩
   obtain ⟨n, hm, hj'⟩ := List.mem_filterMap.1 hj
   exact h.apart k e n hj' (fun q => (List.nodup_cons.1 hn).1 (by rw [q]; exact hm)) b hb
theorem St.sub (h : St w0 l w) (idx : List Nat) (hn : idx.Nodup) : St w0 (idx.filterMap fun i => l[i]?) w :=
 ⟨h.d, h.s.sub idx hn, fun i hi b hb => by
  obtain ⟨n, _, hj'⟩ := List.mem_filterMap.1 hi
  exact h.lo i (List.mem_of_getElem? hj') b hb⟩
end
section
variable {w0 w w' : World} {l : List Item} {α : Type} {T : Ty α}
theorem St.gT {L : T.Law} (h : St w0 l w) (k : Nat) {F : Nat → Prop} {cs : List Value} {x : α} (e : l[k]? = some (iT L F cs x)) : T.O w F cs x := h.s.get k e
theorem St.rT {L : T.Law} (h : St w0 l w) (k : Nat) {F : Nat → Prop} {cs : List Value} {x : α} (e : l[k]? = some (iT L F cs x)) : T.R w cs x := L.reads (h.s.get k e)
theorem St.gB (h : St w0 l w) (k : Nat) {b : Nat} {cs : List Value} {t : TypeId} (e : l[k]? = some (iB b cs t)) : w.heap[b]? = some (.cells cs.toArray t (0, 0)) := h.s.get k e
end
section
variable {w0 w w' : World} {l : List Item}
theorem St.cell (h : St w0 l w) (k : Nat) {b : Nat} {cs : List Value} {t : TypeId} (e : l[k]? = some (iB b cs t)) (j : Nat) {u : Value} (hu : cs[j]? = some u) : w.cell? ⟨b, j, none⟩ = some u := (cell_of_row w b j _ _ _ (h.gB k e)).trans (by simpa using hu)
end
/-- Each cell of what is read is one cell. -/
def Ty.One {α : Type} (T : Ty α) : Prop := ∀ {w cs x}, T.R w cs x → ∀ v ∈ cs, v.oneCell' = true
theorem tInt_one : tInt.One := fun {w cs x} h v hv => by
 have h : cs = [.int .i64 x] := h
 subst h; simp at hv; subst hv; rfl
theorem tPair_one {α β : Type} {a : Ty α} {b : Ty β} (A : a.One) (B : b.One) : (tPair a b).One := fun {w cs x} h v hv => by
 obtain ⟨c1, c2, rfl, h1, h2⟩ := h
 rcases List.mem_append.1 hv with q | q
 ·
  exact A h1 v q
 ·
  exact B h2 v q
theorem tSl_one {α : Type} (e : TypeId) (T : Ty α) : (tSl e T).One := fun {w cs x} h v hv => by
 obtain ⟨u, rfl, h⟩ := h
 obtain ⟨a, c, rfl⟩ := slR_len h
 simp at hv; subst hv; rfl
/-- A block known whole is read whole. -/
theorem load_cells {P : Program} {w : World} {b : Nat} {cs : List Value} {t : TypeId} {f : Nat × Nat} (h : w.heap[b]? = some (.cells cs.toArray t f)) {n : Nat} (hn : cs.length = n) : (loadCellsFrom ⟨b, 0, none⟩ 0 n #[]).run P w = .ok cs.toArray w := by
 subst hn
 have := run_loadCells_list (P := P) w ⟨b, 0, none⟩ cs (fun j v hj => by
  have e : (⟨b, 0, none⟩ : Addr).add j = ⟨b, j, none⟩ := by unfold Addr.add; split <;> simp_all
  rw [e]
  simp [World.cell?, h, hj])
 simpa [loadCells] using this
theorem St.ld {P : Program} {w0 w : World} {l : List Item} (h : St w0 l w) (k : Nat) {b : Nat} {cs : List Value} {t : TypeId} (e : l[k]? = some (iB b cs t)) {n : Nat} (hn : cs.length = n) : (loadCellsFrom ⟨b, 0, none⟩ 0 n #[]).run P w = .ok cs.toArray w := load_cells (h.gB k e) hn
theorem box_set {w : World} {b : Nat} {z c : List Value} {t : TypeId} (h : w.heap[b]? = some (.cells z.toArray t (0, 0))) : (w.setRow b c.toArray).heap[b]? = some (.cells c.toArray t (0, 0)) := setRow_heap w b z.toArray c.toArray t (0, 0) h
theorem turn_row {w : World} {b : Nat} {c : Array Value} : Turn (fun k => k = b) w (w.setRow b c) :=
 ⟨rfl, rfl, rfl, by simp [World.setRow], fun k _ hn => by
  simp only [World.setRow]
  rw [Array.getElem?_modify]
  rw [if_neg (fun e => hn e.symm)]⟩
theorem St.store {w0 w : World} {l : List Item} (h : St w0 l w) (k : Nat) {b : Nat} {z : List Value} {t : TypeId} (e : l[k]? = some (iB b z t)) (c : List Value) : St w0 (l.set k (iB b c t)) (w.setRow b c.toArray) :=
 h.set k e (iB b c t) (fun _ q => q) turn_row (box_set (h.gB k e))
theorem store_at {P : Program} {W : World} {b j : Nat} {c : Array Value} {t : TypeId} {v : Value} (h : W.heap[b]? = some (.cells c t (0, 0))) (hj : j < c.size) (h1 : v.oneCell' = true) : (store ⟨b, j, none⟩ v).run P W = .ok () (W.setRow b (c.setIfInBounds j v)) := by
 have hcell : W.cell? ⟨b, j, none⟩ = some c[j] := by simp [World.cell?, h, hj]
 have hfro : W.frozen? ⟨b, j, none⟩ = false := by simp [World.frozen?, h]
 rw [run_store P W _ v _ h1, hcell]
 simp [hfro, setCell_eq_setRow W b j c t (0, 0) v h]
theorem len2 {cs : List Value} (h : cs.length = 2) : ∃ y0 y1 : Value, cs = [y0, y1] := by
 match cs, h with
 | [y0, y1], _ => exact ⟨y0, y1, rfl⟩
theorem cell2 {w : World} {b : Nat} {t : TypeId} {f : Nat × Nat} {y0 y1 : Value} (h : w.heap[b]? = some (.cells #[y0, y1] t f)) : w.cell? ⟨b, 0, none⟩ = some y0 ∧ w.cell? ⟨b, 1, none⟩ = some y1 :=
 ⟨cell_of_row w b 0 _ _ _ h, cell_of_row w b 1 _ _ _ h⟩
theorem froz2 {w : World} {b : Nat} {t : TypeId} {y0 y1 : Value} (h : w.heap[b]? = some (.cells #[y0, y1] t (0, 0))) : w.frozen? ⟨b, 0, none⟩ = false ∧ w.frozen? ⟨b, 1, none⟩ = false :=
 ⟨frozen_of_row w b 0 _ _ h, frozen_of_row w b 1 _ _ h⟩
theorem rst2 {P : Program} {w : World} {b : Nat} {t : TypeId} {z0 z1 y0 y1 : Value} (h : w.heap[b]? = some (.cells #[z0, z1] t (0, 0))) (h1 : ∀ v ∈ [y0, y1], v.oneCell' = true) : (store ⟨b, 0, none⟩ y0).run P w = .ok () (w.setRow b #[y0, z1]) ∧ (store ⟨b, 1, none⟩ y1).run P (w.setRow b #[y0, z1]) = .ok () (w.setRow b #[y0, y1]) :=
 ⟨by have := store_at (P := P) (j := 0) h (by simp) (h1 y0 (by simp)); simpa using this,
 by have := store_at (P := P) (j := 1) (setRow_heap w b _ #[y0, z1] t (0, 0) h) (by simp) (h1 y1 (by simp)); rw [setRow_setRow] at this; simpa using this⟩
theorem len3 {cs : List Value} (h : cs.length = 3) : ∃ y0 y1 y2 : Value, cs = [y0, y1, y2] := by
 match cs, h with
 | [y0, y1, y2], _ => exact ⟨y0, y1, y2, rfl⟩
theorem len4 {cs : List Value} (h : cs.length = 4) : ∃ y0 y1 y2 y3 : Value, cs = [y0, y1, y2, y3] := by
 match cs, h with
 | [y0, y1, y2, y3], _ => exact ⟨y0, y1, y2, y3, rfl⟩
theorem cell4 {w : World} {b : Nat} {t : TypeId} {f : Nat × Nat} {y0 y1 y2 y3 : Value} (h : w.heap[b]? = some (.cells #[y0, y1, y2, y3] t f)) : w.cell? ⟨b, 0, none⟩ = some y0 ∧ w.cell? ⟨b, 1, none⟩ = some y1 ∧ w.cell? ⟨b, 2, none⟩ = some y2 ∧ w.cell? ⟨b, 3, none⟩ = some y3 :=
 ⟨cell_of_row w b 0 _ _ _ h, cell_of_row w b 1 _ _ _ h, cell_of_row w b 2 _ _ _ h, cell_of_row w b 3 _ _ _ h⟩
theorem froz4 {w : World} {b : Nat} {t : TypeId} {y0 y1 y2 y3 : Value} (h : w.heap[b]? = some (.cells #[y0, y1, y2, y3] t (0, 0))) : w.frozen? ⟨b, 0, none⟩ = false ∧ w.frozen? ⟨b, 1, none⟩ = false ∧ w.frozen? ⟨b, 2, none⟩ = false ∧ w.frozen? ⟨b, 3, none⟩ = false :=
 ⟨frozen_of_row w b 0 _ _ h, frozen_of_row w b 1 _ _ h, frozen_of_row w b 2 _ _ h, frozen_of_row w b 3 _ _ h⟩
theorem rst4 {P : Program} {w : World} {b : Nat} {t : TypeId} {z0 z1 z2 z3 y0 y1 y2 y3 : Value} (h : w.heap[b]? = some (.cells #[z0, z1, z2, z3] t (0, 0))) (h1 : ∀ v ∈ [y0, y1, y2, y3], v.oneCell' = true) : (store ⟨b, 0, none⟩ y0).run P w = .ok () (w.setRow b #[y0, z1, z2, z3]) ∧ (store ⟨b, 1, none⟩ y1).run P (w.setRow b #[y0, z1, z2, z3]) = .ok () (w.setRow b #[y0, y1, z2, z3]) ∧ (store ⟨b, 2, none⟩ y2).run P (w.setRow b #[y0, y1, z2, z3]) = .ok () (w.setRow b #[y0, y1, y2, z3]) ∧ (store ⟨b, 3, none⟩ y3).run P (w.setRow b #[y0, y1, y2, z3]) = .ok () (w.setRow b #[y0, y1, y2, y3]) :=
 ⟨by have := store_at (P := P) (j := 0) h (by simp) (h1 y0 (by simp)); simpa using this,
 by have := store_at (P := P) (j := 1) (setRow_heap w b _ #[y0, z1, z2, z3] t (0, 0) h) (by simp) (h1 y1 (by simp)); rw [setRow_setRow] at this; simpa using this,
 by have := store_at (P := P) (j := 2) (setRow_heap w b _ #[y0, y1, z2, z3] t (0, 0) h) (by simp) (h1 y2 (by simp)); rw [setRow_setRow] at this; simpa using this,
 by have := store_at (P := P) (j := 3) (setRow_heap w b _ #[y0, y1, y2, z3] t (0, 0) h) (by simp) (h1 y3 (by simp)); rw [setRow_setRow] at this; simpa using this⟩
theorem len5 {cs : List Value} (h : cs.length = 5) : ∃ y0 y1 y2 y3 y4 : Value, cs = [y0, y1, y2, y3, y4] := by
 match cs, h with
 | [y0, y1, y2, y3, y4], _ => exact ⟨y0, y1, y2, y3, y4, rfl⟩
theorem cell5 {w : World} {b : Nat} {t : TypeId} {f : Nat × Nat} {y0 y1 y2 y3 y4 : Value} (h : w.heap[b]? = some (.cells #[y0, y1, y2, y3, y4] t f)) : w.cell? ⟨b, 0, none⟩ = some y0 ∧ w.cell? ⟨b, 1, none⟩ = some y1 ∧ w.cell? ⟨b, 2, none⟩ = some y2 ∧ w.cell? ⟨b, 3, none⟩ = some y3 ∧ w.cell? ⟨b, 4, none⟩ = some y4 :=
 ⟨cell_of_row w b 0 _ _ _ h, cell_of_row w b 1 _ _ _ h, cell_of_row w b 2 _ _ _ h, cell_of_row w b 3 _ _ _ h, cell_of_row w b 4 _ _ _ h⟩
theorem froz5 {w : World} {b : Nat} {t : TypeId} {y0 y1 y2 y3 y4 : Value} (h : w.heap[b]? = some (.cells #[y0, y1, y2, y3, y4] t (0, 0))) : w.frozen? ⟨b, 0, none⟩ = false ∧ w.frozen? ⟨b, 1, none⟩ = false ∧ w.frozen? ⟨b, 2, none⟩ = false ∧ w.frozen? ⟨b, 3, none⟩ = false ∧ w.frozen? ⟨b, 4, none⟩ = false :=
 ⟨frozen_of_row w b 0 _ _ h, frozen_of_row w b 1 _ _ h, frozen_of_row w b 2 _ _ h, frozen_of_row w b 3 _ _ h, frozen_of_row w b 4 _ _ h⟩
theorem rst5 {P : Program} {w : World} {b : Nat} {t : TypeId} {z0 z1 z2 z3 z4 y0 y1 y2 y3 y4 : Value} (h : w.heap[b]? = some (.cells #[z0, z1, z2, z3, z4] t (0, 0))) (h1 : ∀ v ∈ [y0, y1, y2, y3, y4], v.oneCell' = true) : (store ⟨b, 0, none⟩ y0).run P w = .ok () (w.setRow b #[y0, z1, z2, z3, z4]) ∧ (store ⟨b, 1, none⟩ y1).run P (w.setRow b #[y0, z1, z2, z3, z4]) = .ok () (w.setRow b #[y0, y1, z2, z3, z4]) ∧ (store ⟨b, 2, none⟩ y2).run P (w.setRow b #[y0, y1, z2, z3, z4]) = .ok () (w.setRow b #[y0, y1, y2, z3, z4]) ∧ (store ⟨b, 3, none⟩ y3).run P (w.setRow b #[y0, y1, y2, z3, z4]) = .ok () (w.setRow b #[y0, y1, y2, y3, z4]) ∧ (store ⟨b, 4, none⟩ y4).run P (w.setRow b #[y0, y1, y2, y3, z4]) = .ok () (w.setRow b #[y0, y1, y2, y3, y4]) :=
 ⟨by have := store_at (P := P) (j := 0) h (by simp) (h1 y0 (by simp)); simpa using this,
 by have := store_at (P := P) (j := 1) (setRow_heap w b _ #[y0, z1, z2, z3, z4] t (0, 0) h) (by simp) (h1 y1 (by simp)); rw [setRow_setRow] at this; simpa using this,
 by have := store_at (P := P) (j := 2) (setRow_heap w b _ #[y0, y1, z2, z3, z4] t (0, 0) h) (by simp) (h1 y2 (by simp)); rw [setRow_setRow] at this; simpa using this,
 by have := store_at (P := P) (j := 3) (setRow_heap w b _ #[y0, y1, y2, z3, z4] t (0, 0) h) (by simp) (h1 y3 (by simp)); rw [setRow_setRow] at this; simpa using this,
 by have := store_at (P := P) (j := 4) (setRow_heap w b _ #[y0, y1, y2, y3, z4] t (0, 0) h) (by simp) (h1 y4 (by simp)); rw [setRow_setRow] at this; simpa using this⟩
theorem len7 {cs : List Value} (h : cs.length = 7) : ∃ y0 y1 y2 y3 y4 y5 y6 : Value, cs = [y0, y1, y2, y3, y4, y5, y6] := by
 match cs, h with
 | [y0, y1, y2, y3, y4, y5, y6], _ => exact ⟨y0, y1, y2, y3, y4, y5, y6, rfl⟩
theorem cell7 {w : World} {b : Nat} {t : TypeId} {f : Nat × Nat} {y0 y1 y2 y3 y4 y5 y6 : Value} (h : w.heap[b]? = some (.cells #[y0, y1, y2, y3, y4, y5, y6] t f)) : w.cell? ⟨b, 0, none⟩ = some y0 ∧ w.cell? ⟨b, 1, none⟩ = some y1 ∧ w.cell? ⟨b, 2, none⟩ = some y2 ∧ w.cell? ⟨b, 3, none⟩ = some y3 ∧ w.cell? ⟨b, 4, none⟩ = some y4 ∧ w.cell? ⟨b, 5, none⟩ = some y5 ∧ w.cell? ⟨b, 6, none⟩ = some y6 :=
 ⟨cell_of_row w b 0 _ _ _ h, cell_of_row w b 1 _ _ _ h, cell_of_row w b 2 _ _ _ h, cell_of_row w b 3 _ _ _ h, cell_of_row w b 4 _ _ _ h, cell_of_row w b 5 _ _ _ h, cell_of_row w b 6 _ _ _ h⟩
theorem froz7 {w : World} {b : Nat} {t : TypeId} {y0 y1 y2 y3 y4 y5 y6 : Value} (h : w.heap[b]? = some (.cells #[y0, y1, y2, y3, y4, y5, y6] t (0, 0))) : w.frozen? ⟨b, 0, none⟩ = false ∧ w.frozen? ⟨b, 1, none⟩ = false ∧ w.frozen? ⟨b, 2, none⟩ = false ∧ w.frozen? ⟨b, 3, none⟩ = false ∧ w.frozen? ⟨b, 4, none⟩ = false ∧ w.frozen? ⟨b, 5, none⟩ = false ∧ w.frozen? ⟨b, 6, none⟩ = false :=
 ⟨frozen_of_row w b 0 _ _ h, frozen_of_row w b 1 _ _ h, frozen_of_row w b 2 _ _ h, frozen_of_row w b 3 _ _ h, frozen_of_row w b 4 _ _ h, frozen_of_row w b 5 _ _ h, frozen_of_row w b 6 _ _ h⟩
theorem rst7 {P : Program} {w : World} {b : Nat} {t : TypeId} {z0 z1 z2 z3 z4 z5 z6 y0 y1 y2 y3 y4 y5 y6 : Value} (h : w.heap[b]? = some (.cells #[z0, z1, z2, z3, z4, z5, z6] t (0, 0))) (h1 : ∀ v ∈ [y0, y1, y2, y3, y4, y5, y6], v.oneCell' = true) : (store ⟨b, 0, none⟩ y0).run P w = .ok () (w.setRow b #[y0, z1, z2, z3, z4, z5, z6]) ∧ (store ⟨b, 1, none⟩ y1).run P (w.setRow b #[y0, z1, z2, z3, z4, z5, z6]) = .ok () (w.setRow b #[y0, y1, z2, z3, z4, z5, z6]) ∧ (store ⟨b, 2, none⟩ y2).run P (w.setRow b #[y0, y1, z2, z3, z4, z5, z6]) = .ok () (w.setRow b #[y0, y1, y2, z3, z4, z5, z6]) ∧ (store ⟨b, 3, none⟩ y3).run P (w.setRow b #[y0, y1, y2, z3, z4, z5, z6]) = .ok () (w.setRow b #[y0, y1, y2, y3, z4, z5, z6]) ∧ (store ⟨b, 4, none⟩ y4).run P (w.setRow b #[y0, y1, y2, y3, z4, z5, z6]) = .ok () (w.setRow b #[y0, y1, y2, y3, y4, z5, z6]) ∧ (store ⟨b, 5, none⟩ y5).run P (w.setRow b #[y0, y1, y2, y3, y4, z5, z6]) = .ok () (w.setRow b #[y0, y1, y2, y3, y4, y5, z6]) ∧ (store ⟨b, 6, none⟩ y6).run P (w.setRow b #[y0, y1, y2, y3, y4, y5, z6]) = .ok () (w.setRow b #[y0, y1, y2, y3, y4, y5, y6]) :=
 ⟨by have := store_at (P := P) (j := 0) h (by simp) (h1 y0 (by simp)); simpa using this,
 by have := store_at (P := P) (j := 1) (setRow_heap w b _ #[y0, z1, z2, z3, z4, z5, z6] t (0, 0) h) (by simp) (h1 y1 (by simp)); rw [setRow_setRow] at this; simpa using this,
 by have := store_at (P := P) (j := 2) (setRow_heap w b _ #[y0, y1, z2, z3, z4, z5, z6] t (0, 0) h) (by simp) (h1 y2 (by simp)); rw [setRow_setRow] at this; simpa using this,
 by have := store_at (P := P) (j := 3) (setRow_heap w b _ #[y0, y1, y2, z3, z4, z5, z6] t (0, 0) h) (by simp) (h1 y3 (by simp)); rw [setRow_setRow] at this; simpa using this,
 by have := store_at (P := P) (j := 4) (setRow_heap w b _ #[y0, y1, y2, y3, z4, z5, z6] t (0, 0) h) (by simp) (h1 y4 (by simp)); rw [setRow_setRow] at this; simpa using this,
 by have := store_at (P := P) (j := 5) (setRow_heap w b _ #[y0, y1, y2, y3, y4, z5, z6] t (0, 0) h) (by simp) (h1 y5 (by simp)); rw [setRow_setRow] at this; simpa using this,
 by have := store_at (P := P) (j := 6) (setRow_heap w b _ #[y0, y1, y2, y3, y4, y5, z6] t (0, 0) h) (by simp) (h1 y6 (by simp)); rw [setRow_setRow] at this; simpa using this⟩
theorem len8 {cs : List Value} (h : cs.length = 8) : ∃ y0 y1 y2 y3 y4 y5 y6 y7 : Value, cs = [y0, y1, y2, y3, y4, y5, y6, y7] := by
 match cs, h with
 | [y0, y1, y2, y3, y4, y5, y6, y7], _ => exact ⟨y0, y1, y2, y3, y4, y5, y6, y7, rfl⟩
theorem cell8 {w : World} {b : Nat} {t : TypeId} {f : Nat × Nat} {y0 y1 y2 y3 y4 y5 y6 y7 : Value} (h : w.heap[b]? = some (.cells #[y0, y1, y2, y3, y4, y5, y6, y7] t f)) : w.cell? ⟨b, 0, none⟩ = some y0 ∧ w.cell? ⟨b, 1, none⟩ = some y1 ∧ w.cell? ⟨b, 2, none⟩ = some y2 ∧ w.cell? ⟨b, 3, none⟩ = some y3 ∧ w.cell? ⟨b, 4, none⟩ = some y4 ∧ w.cell? ⟨b, 5, none⟩ = some y5 ∧ w.cell? ⟨b, 6, none⟩ = some y6 ∧ w.cell? ⟨b, 7, none⟩ = some y7 :=
 ⟨cell_of_row w b 0 _ _ _ h, cell_of_row w b 1 _ _ _ h, cell_of_row w b 2 _ _ _ h, cell_of_row w b 3 _ _ _ h, cell_of_row w b 4 _ _ _ h, cell_of_row w b 5 _ _ _ h, cell_of_row w b 6 _ _ _ h, cell_of_row w b 7 _ _ _ h⟩
theorem froz8 {w : World} {b : Nat} {t : TypeId} {y0 y1 y2 y3 y4 y5 y6 y7 : Value} (h : w.heap[b]? = some (.cells #[y0, y1, y2, y3, y4, y5, y6, y7] t (0, 0))) : w.frozen? ⟨b, 0, none⟩ = false ∧ w.frozen? ⟨b, 1, none⟩ = false ∧ w.frozen? ⟨b, 2, none⟩ = false ∧ w.frozen? ⟨b, 3, none⟩ = false ∧ w.frozen? ⟨b, 4, none⟩ = false ∧ w.frozen? ⟨b, 5, none⟩ = false ∧ w.frozen? ⟨b, 6, none⟩ = false ∧ w.frozen? ⟨b, 7, none⟩ = false :=
 ⟨frozen_of_row w b 0 _ _ h, frozen_of_row w b 1 _ _ h, frozen_of_row w b 2 _ _ h, frozen_of_row w b 3 _ _ h, frozen_of_row w b 4 _ _ h, frozen_of_row w b 5 _ _ h, frozen_of_row w b 6 _ _ h, frozen_of_row w b 7 _ _ h⟩
theorem rst8 {P : Program} {w : World} {b : Nat} {t : TypeId} {z0 z1 z2 z3 z4 z5 z6 z7 y0 y1 y2 y3 y4 y5 y6 y7 : Value} (h : w.heap[b]? = some (.cells #[z0, z1, z2, z3, z4, z5, z6, z7] t (0, 0))) (h1 : ∀ v ∈ [y0, y1, y2, y3, y4, y5, y6, y7], v.oneCell' = true) : (store ⟨b, 0, none⟩ y0).run P w = .ok () (w.setRow b #[y0, z1, z2, z3, z4, z5, z6, z7]) ∧ (store ⟨b, 1, none⟩ y1).run P (w.setRow b #[y0, z1, z2, z3, z4, z5, z6, z7]) = .ok () (w.setRow b #[y0, y1, z2, z3, z4, z5, z6, z7]) ∧ (store ⟨b, 2, none⟩ y2).run P (w.setRow b #[y0, y1, z2, z3, z4, z5, z6, z7]) = .ok () (w.setRow b #[y0, y1, y2, z3, z4, z5, z6, z7]) ∧ (store ⟨b, 3, none⟩ y3).run P (w.setRow b #[y0, y1, y2, z3, z4, z5, z6, z7]) = .ok () (w.setRow b #[y0, y1, y2, y3, z4, z5, z6, z7]) ∧ (store ⟨b, 4, none⟩ y4).run P (w.setRow b #[y0, y1, y2, y3, z4, z5, z6, z7]) = .ok () (w.setRow b #[y0, y1, y2, y3, y4, z5, z6, z7]) ∧ (store ⟨b, 5, none⟩ y5).run P (w.setRow b #[y0, y1, y2, y3, y4, z5, z6, z7]) = .ok () (w.setRow b #[y0, y1, y2, y3, y4, y5, z6, z7]) ∧ (store ⟨b, 6, none⟩ y6).run P (w.setRow b #[y0, y1, y2, y3, y4, y5, z6, z7]) = .ok () (w.setRow b #[y0, y1, y2, y3, y4, y5, y6, z7]) ∧ (store ⟨b, 7, none⟩ y7).run P (w.setRow b #[y0, y1, y2, y3, y4, y5, y6, z7]) = .ok () (w.setRow b #[y0, y1, y2, y3, y4, y5, y6, y7]) :=
 ⟨by have := store_at (P := P) (j := 0) h (by simp) (h1 y0 (by simp)); simpa using this,
 by have := store_at (P := P) (j := 1) (setRow_heap w b _ #[y0, z1, z2, z3, z4, z5, z6, z7] t (0, 0) h) (by simp) (h1 y1 (by simp)); rw [setRow_setRow] at this; simpa using this,
 by have := store_at (P := P) (j := 2) (setRow_heap w b _ #[y0, y1, z2, z3, z4, z5, z6, z7] t (0, 0) h) (by simp) (h1 y2 (by simp)); rw [setRow_setRow] at this; simpa using this,
 by have := store_at (P := P) (j := 3) (setRow_heap w b _ #[y0, y1, y2, z3, z4, z5, z6, z7] t (0, 0) h) (by simp) (h1 y3 (by simp)); rw [setRow_setRow] at this; simpa using this,
 by have := store_at (P := P) (j := 4) (setRow_heap w b _ #[y0, y1, y2, y3, z4, z5, z6, z7] t (0, 0) h) (by simp) (h1 y4 (by simp)); rw [setRow_setRow] at this; simpa using this,
 by have := store_at (P := P) (j := 5) (setRow_heap w b _ #[y0, y1, y2, y3, y4, z5, z6, z7] t (0, 0) h) (by simp) (h1 y5 (by simp)); rw [setRow_setRow] at this; simpa using this,
 by have := store_at (P := P) (j := 6) (setRow_heap w b _ #[y0, y1, y2, y3, y4, y5, z6, z7] t (0, 0) h) (by simp) (h1 y6 (by simp)); rw [setRow_setRow] at this; simpa using this,
 by have := store_at (P := P) (j := 7) (setRow_heap w b _ #[y0, y1, y2, y3, y4, y5, y6, z7] t (0, 0) h) (by simp) (h1 y7 (by simp)); rw [setRow_setRow] at this; simpa using this⟩
theorem len10 {cs : List Value} (h : cs.length = 10) : ∃ y0 y1 y2 y3 y4 y5 y6 y7 y8 y9 : Value, cs = [y0, y1, y2, y3, y4, y5, y6, y7, y8, y9] := by
 match cs, h with
 | [y0, y1, y2, y3, y4, y5, y6, y7, y8, y9], _ => exact ⟨y0, y1, y2, y3, y4, y5, y6, y7, y8, y9, rfl⟩
theorem cell10 {w : World} {b : Nat} {t : TypeId} {f : Nat × Nat} {y0 y1 y2 y3 y4 y5 y6 y7 y8 y9 : Value} (h : w.heap[b]? = some (.cells #[y0, y1, y2, y3, y4, y5, y6, y7, y8, y9] t f)) : w.cell? ⟨b, 0, none⟩ = some y0 ∧ w.cell? ⟨b, 1, none⟩ = some y1 ∧ w.cell? ⟨b, 2, none⟩ = some y2 ∧ w.cell? ⟨b, 3, none⟩ = some y3 ∧ w.cell? ⟨b, 4, none⟩ = some y4 ∧ w.cell? ⟨b, 5, none⟩ = some y5 ∧ w.cell? ⟨b, 6, none⟩ = some y6 ∧ w.cell? ⟨b, 7, none⟩ = some y7 ∧ w.cell? ⟨b, 8, none⟩ = some y8 ∧ w.cell? ⟨b, 9, none⟩ = some y9 :=
 ⟨cell_of_row w b 0 _ _ _ h, cell_of_row w b 1 _ _ _ h, cell_of_row w b 2 _ _ _ h, cell_of_row w b 3 _ _ _ h, cell_of_row w b 4 _ _ _ h, cell_of_row w b 5 _ _ _ h, cell_of_row w b 6 _ _ _ h, cell_of_row w b 7 _ _ _ h, cell_of_row w b 8 _ _ _ h, cell_of_row w b 9 _ _ _ h⟩
theorem froz10 {w : World} {b : Nat} {t : TypeId} {y0 y1 y2 y3 y4 y5 y6 y7 y8 y9 : Value} (h : w.heap[b]? = some (.cells #[y0, y1, y2, y3, y4, y5, y6, y7, y8, y9] t (0, 0))) : w.frozen? ⟨b, 0, none⟩ = false ∧ w.frozen? ⟨b, 1, none⟩ = false ∧ w.frozen? ⟨b, 2, none⟩ = false ∧ w.frozen? ⟨b, 3, none⟩ = false ∧ w.frozen? ⟨b, 4, none⟩ = false ∧ w.frozen? ⟨b, 5, none⟩ = false ∧ w.frozen? ⟨b, 6, none⟩ = false ∧ w.frozen? ⟨b, 7, none⟩ = false ∧ w.frozen? ⟨b, 8, none⟩ = false ∧ w.frozen? ⟨b, 9, none⟩ = false :=
 ⟨frozen_of_row w b 0 _ _ h, frozen_of_row w b 1 _ _ h, frozen_of_row w b 2 _ _ h, frozen_of_row w b 3 _ _ h, frozen_of_row w b 4 _ _ h, frozen_of_row w b 5 _ _ h, frozen_of_row w b 6 _ _ h, frozen_of_row w b 7 _ _ h, frozen_of_row w b 8 _ _ h, frozen_of_row w b 9 _ _ h⟩
theorem rst10 {P : Program} {w : World} {b : Nat} {t : TypeId} {z0 z1 z2 z3 z4 z5 z6 z7 z8 z9 y0 y1 y2 y3 y4 y5 y6 y7 y8 y9 : Value} (h : w.heap[b]? = some (.cells #[z0, z1, z2, z3, z4, z5, z6, z7, z8, z9] t (0, 0))) (h1 : ∀ v ∈ [y0, y1, y2, y3, y4, y5, y6, y7, y8, y9], v.oneCell' = true) : (store ⟨b, 0, none⟩ y0).run P w = .ok () (w.setRow b #[y0, z1, z2, z3, z4, z5, z6, z7, z8, z9]) ∧ (store ⟨b, 1, none⟩ y1).run P (w.setRow b #[y0, z1, z2, z3, z4, z5, z6, z7, z8, z9]) = .ok () (w.setRow b #[y0, y1, z2, z3, z4, z5, z6, z7, z8, z9]) ∧ (store ⟨b, 2, none⟩ y2).run P (w.setRow b #[y0, y1, z2, z3, z4, z5, z6, z7, z8, z9]) = .ok () (w.setRow b #[y0, y1, y2, z3, z4, z5, z6, z7, z8, z9]) ∧ (store ⟨b, 3, none⟩ y3).run P (w.setRow b #[y0, y1, y2, z3, z4, z5, z6, z7, z8, z9]) = .ok () (w.setRow b #[y0, y1, y2, y3, z4, z5, z6, z7, z8, z9]) ∧ (store ⟨b, 4, none⟩ y4).run P (w.setRow b #[y0, y1, y2, y3, z4, z5, z6, z7, z8, z9]) = .ok () (w.setRow b #[y0, y1, y2, y3, y4, z5, z6, z7, z8, z9]) ∧ (store ⟨b, 5, none⟩ y5).run P (w.setRow b #[y0, y1, y2, y3, y4, z5, z6, z7, z8, z9]) = .ok () (w.setRow b #[y0, y1, y2, y3, y4, y5, z6, z7, z8, z9]) ∧ (store ⟨b, 6, none⟩ y6).run P (w.setRow b #[y0, y1, y2, y3, y4, y5, z6, z7, z8, z9]) = .ok () (w.setRow b #[y0, y1, y2, y3, y4, y5, y6, z7, z8, z9]) ∧ (store ⟨b, 7, none⟩ y7).run P (w.setRow b #[y0, y1, y2, y3, y4, y5, y6, z7, z8, z9]) = .ok () (w.setRow b #[y0, y1, y2, y3, y4, y5, y6, y7, z8, z9]) ∧ (store ⟨b, 8, none⟩ y8).run P (w.setRow b #[y0, y1, y2, y3, y4, y5, y6, y7, z8, z9]) = .ok () (w.setRow b #[y0, y1, y2, y3, y4, y5, y6, y7, y8, z9]) ∧ (store ⟨b, 9, none⟩ y9).run P (w.setRow b #[y0, y1, y2, y3, y4, y5, y6, y7, y8, z9]) = .ok () (w.setRow b #[y0, y1, y2, y3, y4, y5, y6, y7, y8, y9]) :=
 ⟨by have := store_at (P := P) (j := 0) h (by simp) (h1 y0 (by simp)); simpa using this,
 by have := store_at (P := P) (j := 1) (setRow_heap w b _ #[y0, z1, z2, z3, z4, z5, z6, z7, z8, z9] t (0, 0) h) (by simp) (h1 y1 (by simp)); rw [setRow_setRow] at this; simpa using this,
 by have := store_at (P := P) (j := 2) (setRow_heap w b _ #[y0, y1, z2, z3, z4, z5, z6, z7, z8, z9] t (0, 0) h) (by simp) (h1 y2 (by simp)); rw [setRow_setRow] at this; simpa using this,
 by have := store_at (P := P) (j := 3) (setRow_heap w b _ #[y0, y1, y2, z3, z4, z5, z6, z7, z8, z9] t (0, 0) h) (by simp) (h1 y3 (by simp)); rw [setRow_setRow] at this; simpa using this,
 by have := store_at (P := P) (j := 4) (setRow_heap w b _ #[y0, y1, y2, y3, z4, z5, z6, z7, z8, z9] t (0, 0) h) (by simp) (h1 y4 (by simp)); rw [setRow_setRow] at this; simpa using this,
 by have := store_at (P := P) (j := 5) (setRow_heap w b _ #[y0, y1, y2, y3, y4, z5, z6, z7, z8, z9] t (0, 0) h) (by simp) (h1 y5 (by simp)); rw [setRow_setRow] at this; simpa using this,
 by have := store_at (P := P) (j := 6) (setRow_heap w b _ #[y0, y1, y2, y3, y4, y5, z6, z7, z8, z9] t (0, 0) h) (by simp) (h1 y6 (by simp)); rw [setRow_setRow] at this; simpa using this,
 by have := store_at (P := P) (j := 7) (setRow_heap w b _ #[y0, y1, y2, y3, y4, y5, y6, z7, z8, z9] t (0, 0) h) (by simp) (h1 y7 (by simp)); rw [setRow_setRow] at this; simpa using this,
 by have := store_at (P := P) (j := 8) (setRow_heap w b _ #[y0, y1, y2, y3, y4, y5, y6, y7, z8, z9] t (0, 0) h) (by simp) (h1 y8 (by simp)); rw [setRow_setRow] at this; simpa using this,
 by have := store_at (P := P) (j := 9) (setRow_heap w b _ #[y0, y1, y2, y3, y4, y5, y6, y7, y8, z9] t (0, 0) h) (by simp) (h1 y9 (by simp)); rw [setRow_setRow] at this; simpa using this⟩
end Go.Proofs.YtnepfacnmaoieaaGreatDoor
