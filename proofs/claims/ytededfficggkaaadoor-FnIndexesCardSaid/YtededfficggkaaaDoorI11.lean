/-
 Texts of the proof, merged: Ty, TyInt, TCond, TCondS, TQuery, TQueryS, TSpan, TSpanS, TSpanSS, TIndex, SpanOwn, BrSpan, SpanLaws.
-/
import Derived.Test.YtededfficggkaaaDoorI2
import Derived.WalkKit
import Derived.Below
import Derived.Lib.Hide
import Derived.OwnWalk
import Derived.Laws.OwnMore
import Derived.Laws.MakeOwn
import Derived.BigQuiet
import Derived.Deep.QuietTactic
import Derived.Deep.RegionHeld3
namespace Go.Proofs.YtededfficggkaaaDoor
open Go.RowKit
set_option linter.unusedVariables false
set_option linter.unusedSimpArgs false
/-- Only blocks in G, of those that were there, have turned. -/
structure Turn (G : Nat → Prop) (w w' : World) : Prop where
 os : w'.os = w.os
 tape : w'.tape = w.tape
 output : w'.output = w.output
 size : w.heap.size ≤ w'.heap.size
 block : ∀ k, k < w.heap.size → ¬ G k → w'.heap[k]? = w.heap[k]?
theorem Turn.refl (G : Nat → Prop) (w : World) : Turn G w w := ⟨rfl, rfl, rfl, Nat.le_refl _, fun _ _ _ => rfl⟩
theorem Turn.trans {G : Nat → Prop} {a b c : World} (h : Turn G a b) (k : Turn G b c) : Turn G a c :=
 ⟨k.os.trans h.os, k.tape.trans h.tape, k.output.trans h.output, Nat.le_trans h.size k.size, fun i hi hn => (k.block i (Nat.lt_of_lt_of_le hi h.size) hn).trans (h.block i hi hn)⟩
theorem Turn.mono {G G' : Nat → Prop} {a b : World} (h : Turn G a b) (hg : ∀ k, G k → G' k) : Turn G' a b :=
 ⟨h.os, h.tape, h.output, h.size, fun i hi hn => h.block i hi (fun g => hn (hg i g))⟩
theorem turn_grown {G : Nat → Prop} {w w' : World} {row : Option Nat} (h : w.grownBy w' row) (hr : ∀ b, row = some b → G b) : Turn G w w' :=
 ⟨h.os, h.tape, h.output, h.size, fun k hk hn => h.block k hk (fun e => hn (hr k e.symm))⟩
theorem turn_below {G : Nat → Prop} {w w' : World} (h : Below w.heap.size w w') : Turn G w w' := ⟨h.os, h.tape, h.output, h.size, fun k hk _ => h.block k hk⟩
theorem turn_set {G : Nat → Prop} {w : World} {g j : Nat} {u : Value} (h : G g) : Turn G w (w.setCell ⟨g, j, none⟩ u) :=
 ⟨rfl, rfl, rfl, by simp [World.setCell], fun k hk hn => Below.heap_setCell w _ u k (fun e => hn (by rw [e]; exact h))⟩
theorem below_turn {B : Nat} {G : Nat → Prop} {a w w' : World} (h : Below B a w) (k : Turn G w w') (hG : ∀ b, G b → B ≤ b) (hs : B ≤ w.heap.size) : Below B a w' :=
 h.trans ⟨k.os, k.tape, k.output, k.size, fun i hi => k.block i (by omega) (fun g => by have := hG i g; omega)⟩
theorem row_turn {w w' : World} {G : Nat → Prop} {B : Nat} {e : TypeId} {size : Nat} {u : Value} {n : Nat} {xs : List Value} (h : w.ownsRow B e size u n xs) (k : Turn G w w') (hd : ∀ b, u.ownBlock = some b → ¬ G b) : w'.ownsRow B e size u n xs := by
 refine ⟨h.1, ?_⟩
 rcases h.2 with hn | ⟨g, cap, cur, rfl, hb', hg, rest⟩
 ·
  exact .inl hn
 ·
  refine .inr ⟨g, cap, cur, rfl, hb', ?_, rest⟩
  rw [k.block g (Array.getElem?_eq_some_iff.1 hg).1 (hd g rfl)]
  exact hg
theorem row_low {w : World} {B C : Nat} {e : TypeId} {size : Nat} {v : Value} {n : Nat} {xs : List Value} (h : w.ownsRow C e size v n xs) (hb : B ≤ C) : w.ownsRow B e size v n xs := by
 refine ⟨h.1, ?_⟩
 rcases h.2 with hn | ⟨g, cap, cur, e, hb', rest⟩
 ·
  exact .inl hn
 ·
  exact .inr ⟨g, cap, cur, e, Nat.le_trans hb hb', rest⟩
theorem row_form {w : World} {B : Nat} {e : TypeId} {size : Nat} {v : Value} {n : Nat} {xs : List Value} (h : w.ownsRow B e size v n xs) : (v = .slice none 0 0 ∧ n = 0) ∨ ∃ g cap, v = .slice (some ⟨g, 0, none⟩) n cap ∧ g < w.heap.size := by
 rcases h.2 with h' | ⟨g, cap, cur, rfl, hb, hg, _⟩
 ·
  exact .inl h'
 ·
  exact .inr ⟨g, cap, rfl, (Array.getElem?_eq_some_iff.1 hg).1⟩
/-- A kind of data: how many cells; what is read; what is owned, in blocks of the set; size; marks (nd, md: in memory, numbers too; nv, mv: by value); lengths that a slice can have; how many numbers lie in the cells. -/
structure Ty (α : Type) where
 n : Nat
 d : α
 R : World → List Value → α → Prop
 O : World → (Nat → Prop) → List Value → α → Prop
 sz : α → Nat
 nd : α → Nat
 nv : α → Nat
 md : α → Int → α
 mv : α → Int → α
 ok : α → Prop
 s : Nat
structure Ty.Law {α : Type} (T : Ty α) : Prop where
 pos : 0 < T.n
 len : ∀ {w cs x}, T.R w cs x → cs.length = T.n
 below : ∀ {W w cs x}, T.R W cs x → Below W.heap.size W w → T.R w cs x
 reads : ∀ {w F cs x}, T.O w F cs x → T.R w cs x
 turn : ∀ {w w' F G cs x}, T.O w F cs x → Turn G w w' → (∀ b, F b → ¬ G b) → T.O w' F cs x
 mono : ∀ {w F F' cs x}, T.O w F cs x → (∀ b, F b → F' b) → T.O w F' cs x
 lt : ∀ {w F cs x}, T.O w F cs x → T.O w (fun b => F b ∧ b < w.heap.size) cs x
 nd_le : ∀ x, T.nd x ≤ 16 * T.sz x + T.s
 nv_le : ∀ x, T.nv x ≤ 16 * T.sz x
/-- What is owned stays while only new blocks, or blocks beyond it, are written. -/
theorem Ty.Law.fresh {α : Type} {T : Ty α} (L : T.Law) {w w' : World} {F : Nat → Prop} {cs : List Value} {x : α} (h : T.O w F cs x) (hb : Below w.heap.size w w') : T.O w' F cs x :=
 L.turn (G := fun _ => False) h (turn_below hb) (fun _ _ => not_false)
/- Numbers. -/
def tInt : Ty Int := { n := 1, d := 0, R := fun _ cs x => cs = [.int .i64 x], O := fun _ _ cs x => cs = [.int .i64 x], sz := fun _ => 0, nd := fun _ => 1, nv := fun _ => 0, md := fun _ k => k, mv := fun x _ => x, ok := fun _ => True, s := 1 }
theorem tInt_law : tInt.Law := ⟨by decide, fun h => by cases h; rfl, fun h _ => h, fun h => h, fun h _ _ => h, fun h _ => h, fun h => h, fun x => Nat.le_refl _, fun x => Nat.le_refl _⟩
/- Pairs. -/
def tPair {α β : Type} (a : Ty α) (b : Ty β) : Ty (α × β) where
 n := a.n + b.n
 d := (a.d, b.d)
 R := fun w cs p => ∃ c1 c2, cs = c1 ++ c2 ∧ a.R w c1 p.1 ∧ b.R w c2 p.2
 O := fun w F cs p => ∃ c1 c2 F1 F2, cs = c1 ++ c2 ∧ a.O w F1 c1 p.1 ∧ b.O w F2 c2 p.2 ∧ (∀ k, F1 k → F k) ∧ (∀ k, F2 k → F k) ∧ ∀ k, F1 k → ¬ F2 k
 sz := fun p => a.sz p.1 + b.sz p.2
 nd := fun p => a.nd p.1 + b.nd p.2
 nv := fun p => a.nv p.1 + b.nv p.2
 md := fun p k => (a.md p.1 k, b.md p.2 (k + (a.nd p.1 : Int)))
 mv := fun p k => (a.mv p.1 k, b.mv p.2 (k + (a.nv p.1 : Int)))
 ok := fun p => a.ok p.1 ∧ b.ok p.2
 s := a.s + b.s
theorem tPair_law {α β : Type} {a : Ty α} {b : Ty β} (A : a.Law) (B : b.Law) : (tPair a b).Law where
 pos := by have := A.pos; show 0 < a.n + b.n; omega
 len := fun {w cs x} h => by
  obtain ⟨c1, c2, rfl, h1, h2⟩ := h
  rw [List.length_append, A.len h1, B.len h2]; rfl
 below := fun {W w cs x} h hb => by
  obtain ⟨c1, c2, e, h1, h2⟩ := h
  exact ⟨c1, c2, e, A.below h1 hb, B.below h2 hb⟩
 reads := fun {w F cs x} h => by
  obtain ⟨c1, c2, F1, F2, e, h1, h2, _⟩ := h
  exact ⟨c1, c2, e, A.reads h1, B.reads h2⟩
 turn := fun {w w' F G cs x} h k hd => by
  obtain ⟨c1, c2, F1, F2, e, h1, h2, h3, h4, h5⟩ := h
  exact ⟨c1, c2, F1, F2, e, A.turn h1 k (fun b g => hd b (h3 b g)), B.turn h2 k (fun b g => hd b (h4 b g)), h3, h4, h5⟩
 mono := fun {w F F' cs x} h hf => by
  obtain ⟨c1, c2, F1, F2, e, h1, h2, h3, h4, h5⟩ := h
  exact ⟨c1, c2, F1, F2, e, h1, h2, fun k g => hf k (h3 k g), fun k g => hf k (h4 k g), h5⟩
 lt := fun {w F cs x} h => by
  obtain ⟨c1, c2, F1, F2, e, h1, h2, h3, h4, h5⟩ := h
  exact ⟨c1, c2, _, _, e, A.lt h1, B.lt h2, fun k g => ⟨h3 k g.1, g.2⟩, fun k g => ⟨h4 k g.1, g.2⟩, fun k g g' => h5 k g.1 g'.1⟩
 nd_le := fun x => by
  have h1 := A.nd_le x.1; have h2 := B.nd_le x.2
  show a.nd x.1 + b.nd x.2 ≤ 16 * (a.sz x.1 + b.sz x.2) + (a.s + b.s); omega
 nv_le := fun x => by
  have h1 := A.nv_le x.1; have h2 := B.nv_le x.2
  show a.nv x.1 + b.nv x.2 ≤ 16 * (a.sz x.1 + b.sz x.2); omega
theorem tPair_sz {α β : Type} (a : Ty α) (b : Ty β) (p : α × β) : (tPair a b).sz p = a.sz p.1 + b.sz p.2 := rfl
theorem tPair_nd {α β : Type} (a : Ty α) (b : Ty β) (p : α × β) : (tPair a b).nd p = a.nd p.1 + b.nd p.2 := rfl
theorem tPair_nv {α β : Type} (a : Ty α) (b : Ty β) (p : α × β) : (tPair a b).nv p = a.nv p.1 + b.nv p.2 := rfl
theorem tInt_sz (x : Int) : tInt.sz x = 0 := rfl
theorem tInt_nd (x : Int) : tInt.nd x = 1 := rfl
theorem tInt_nv (x : Int) : tInt.nv x = 0 := rfl
/- Slices. -/
section
variable {α : Type}
def SlR (T : Ty α) (w : World) (v : Value) (xs : List α) : Prop :=
 (xs = [] ∧ ∃ a cap, v = .slice a 0 cap) ∨ ∃ (b off cap : Nat) (us : Nat → List Value), v = .slice (some ⟨b, off, none⟩) xs.length cap ∧ xs.length ≤ cap ∧ b < w.heap.size ∧
  ∀ j, j < xs.length → (∀ i, i < T.n → w.cell? ⟨b, off + j * T.n + i, none⟩ = (us j)[i]?) ∧ T.R w (us j) (xs.getD j T.d)
def SlO (e : TypeId) (T : Ty α) (w : World) (F : Nat → Prop) (v : Value) (xs : List α) : Prop :=
 ∃ (L : List Value) (us : Nat → List Value) (Fs : Nat → Nat → Prop), w.ownsRow 0 e T.n v xs.length L ∧ (∀ b, v.ownBlock = some b → F b) ∧
  (∀ j, j < xs.length → (∀ i, i < T.n → L[j * T.n + i]? = (us j)[i]?) ∧ T.O w (Fs j) (us j) (xs.getD j T.d) ∧ ∀ b, Fs j b → F b ∧ v.ownBlock ≠ some b) ∧
  ∀ i j, i < xs.length → j < xs.length → i ≠ j → ∀ b, Fs i b → ¬ Fs j b
def sumN (f : α → Nat) (xs : List α) (k : Nat) : Nat := ((xs.take k).map f).sum
theorem sumN_zero (f : α → Nat) (xs : List α) : sumN f xs 0 = 0 := by simp [sumN]
theorem sumN_step (f : α → Nat) {xs : List α} {k : Nat} (d : α) (hk : k < xs.length) : sumN f xs (k + 1) = sumN f xs k + f (xs.getD k d) := by
 unfold sumN
 have e : xs.getD k d = xs[k] := by simp [List.getD, hk]
 rw [e, List.take_succ_eq_append_getElem hk, List.map_append, List.sum_append]
 simp
theorem sumN_le (f : α → Nat) {xs : List α} {k : Nat} (hk : k ≤ xs.length) : sumN f xs k ≤ sumN f xs xs.length := by
 unfold sumN
 have e : xs.take xs.length = xs.take k ++ xs.drop k := by rw [List.take_length, List.take_append_drop]
 rw [e, List.map_append, List.sum_append]
 omega
theorem sum_map_le {f g : α → Nat} {c s : Nat} (h : ∀ x, f x ≤ c * g x + s) : ∀ xs : List α, (xs.map f).sum ≤ c * (xs.map g).sum + s * xs.length
 | [] => by simp
 | x :: xs => by
  have h1 := h x
  have h2 := sum_map_le h xs
  simp only [List.map_cons, List.sum_cons, List.length_cons, Nat.mul_add, Nat.mul_one]
  omega
/-- The mark with which element j begins. -/
def kAt (T : Ty α) (xs : List α) (k : Int) (j : Nat) : Int := k + (sumN T.nd xs j : Int)
def mAt (T : Ty α) (xs : List α) (k : Int) (j : Nat) : α := T.md (xs.getD j T.d) (kAt T xs k j)
def mAll (T : Ty α) (xs : List α) (k : Int) : List α := (List.range xs.length).map (mAt T xs k)
def zTo (T : Ty α) (xs : List α) (k : Nat) : Nat := xs.length + sumN T.sz xs k
def zL (T : Ty α) (xs : List α) : Nat := zTo T xs xs.length
def ndL (T : Ty α) (xs : List α) : Nat := sumN T.nd xs xs.length
def tSl (e : TypeId) (T : Ty α) : Ty (List α) where
 n := 1
 d := []
 R := fun w cs xs => ∃ v, cs = [v] ∧ SlR T w v xs
 O := fun w F cs xs => ∃ v, cs = [v] ∧ SlO e T w F v xs
 sz := zL T
 nd := ndL T
 nv := ndL T
 md := mAll T
 mv := mAll T
 ok := fun xs => (xs.length : Int) ≤ 9223372036854775807 ∧ ∀ j, j < xs.length → T.ok (xs.getD j T.d)
 s := 0
theorem tSl_sz (e : TypeId) (T : Ty α) (xs : List α) : (tSl e T).sz xs = zL T xs := rfl
theorem tSl_nd (e : TypeId) (T : Ty α) (xs : List α) : (tSl e T).nd xs = ndL T xs := rfl
theorem tSl_nv (e : TypeId) (T : Ty α) (xs : List α) : (tSl e T).nv xs = ndL T xs := rfl
theorem slR_len {T : Ty α} {w : World} {v : Value} {xs : List α} (h : SlR T w v xs) : ∃ a cap, v = .slice a xs.length cap := by
 rcases h with ⟨rfl, a, cap, rfl⟩ | ⟨b, off, cap, us, rfl, _⟩
 ·
  exact ⟨a, cap, rfl⟩
 ·
  exact ⟨_, cap, rfl⟩
theorem slR_below {T : Ty α} (A : T.Law) {W w : World} {v : Value} {xs : List α} (h : SlR T W v xs) (hb : Below W.heap.size W w) : SlR T w v xs := by
 rcases h with h | ⟨b, off, cap, us, h1, h2, h3, h4⟩
 ·
  exact Or.inl h
 ·
  exact Or.inr ⟨b, off, cap, us, h1, h2, Nat.lt_of_lt_of_le h3 hb.size, fun j hj => ⟨fun i hi => (hb.cell (p := ⟨b, off + j * T.n + i, none⟩) h3).trans ((h4 j hj).1 i hi), A.below (h4 j hj).2 hb⟩⟩
theorem slR_at {T : Ty α} {w : World} {v : Value} {xs : List α} (h : SlR T w v xs) {k : Nat} (hk : k < xs.length) : ∃ (b off cap : Nat) (cs : List Value), v = .slice (some ⟨b, off, none⟩) xs.length cap ∧ b < w.heap.size ∧ (∀ i, i < T.n → w.cell? ⟨b, off + k * T.n + i, none⟩ = cs[i]?) ∧ T.R w cs (xs.getD k T.d) := by
 rcases h with ⟨rfl, _⟩ | ⟨b, off, cap, us, h1, h2, h3, h4⟩
 ·
  simp at hk
 ·
  exact ⟨b, off, cap, us k, h1, h3, (h4 k hk).1, (h4 k hk).2⟩
theorem slO_reads {e : TypeId} {T : Ty α} (A : T.Law) {w : World} {F : Nat → Prop} {v : Value} {xs : List α} (h : SlO e T w F v xs) : SlR T w v xs := by
 obtain ⟨L, us, Fs, h1, _, h2, _⟩ := h
 have h1' := h1
 rcases h1.2 with ⟨rfl, hn⟩ | ⟨g, cap, cur, rfl, hb, hg, hn, hm, hcs, htake⟩
 ·
  exact Or.inl ⟨List.eq_nil_of_length_eq_zero hn, none, 0, rfl⟩
 ·
  refine Or.inr ⟨g, 0, cap, us, rfl, hn, (Array.getElem?_eq_some_iff.1 hg).1, fun j hj => ⟨fun i hi => ?_, A.reads (h2 j hj).2.1⟩⟩
  have hlt : j * T.n + i < xs.length * T.n := by
   have : (j + 1) * T.n ≤ xs.length * T.n := Nat.mul_le_mul_right _ hj
   rw [Nat.add_mul, Nat.one_mul] at this; omega
  rw [Nat.zero_add, World.ownsRow.cellAt h1' _ hlt]
  exact (h2 j hj).1 i hi
theorem slO_turn {e : TypeId} {T : Ty α} (A : T.Law) {w w' : World} {F G : Nat → Prop} {v : Value} {xs : List α} (h : SlO e T w F v xs) (k : Turn G w w') (hd : ∀ b, F b → ¬ G b) : SlO e T w' F v xs := by
 obtain ⟨L, us, Fs, h1, h2, h3, h4⟩ := h
 exact ⟨L, us, Fs, row_turn h1 k (fun b hb => hd b (h2 b hb)), h2, fun j hj => ⟨(h3 j hj).1, A.turn (h3 j hj).2.1 k (fun b hb => hd b ((h3 j hj).2.2 b hb).1), (h3 j hj).2.2⟩, h4⟩
theorem slO_mono {e : TypeId} {T : Ty α} {w : World} {F F' : Nat → Prop} {v : Value} {xs : List α} (h : SlO e T w F v xs) (hf : ∀ b, F b → F' b) : SlO e T w F' v xs := by
 obtain ⟨L, us, Fs, h1, h2, h3, h4⟩ := h
 exact ⟨L, us, Fs, h1, fun b hb => hf b (h2 b hb), fun j hj => ⟨(h3 j hj).1, (h3 j hj).2.1, fun b hb => ⟨hf b ((h3 j hj).2.2 b hb).1, ((h3 j hj).2.2 b hb).2⟩⟩, h4⟩
theorem slO_lt {e : TypeId} {T : Ty α} (A : T.Law) {w : World} {F : Nat → Prop} {v : Value} {xs : List α} (h : SlO e T w F v xs) : SlO e T w (fun b => F b ∧ b < w.heap.size) v xs := by
 obtain ⟨L, us, Fs, h1, h2, h3, h4⟩ := h
 exact ⟨L, us, fun j b => Fs j b ∧ b < w.heap.size, h1, fun b hb => ⟨h2 b hb, (h1.lt b hb).2⟩, fun j hj => ⟨(h3 j hj).1, A.lt (h3 j hj).2.1, fun b hb => ⟨⟨((h3 j hj).2.2 b hb.1).1, hb.2⟩, ((h3 j hj).2.2 b hb.1).2⟩⟩, fun i j hi hj hij b hb hc => h4 i j hi hj hij b hb.1 hc.1⟩
theorem slO_fresh {e : TypeId} {T : Ty α} (A : T.Law) {w w' : World} {F : Nat → Prop} {v : Value} {xs : List α} (h : SlO e T w F v xs) (hb : Below w.heap.size w w') : SlO e T w' F v xs :=
 slO_turn (G := fun _ => False) A h (turn_below hb) (fun _ _ => not_false)
theorem slO_nil (e : TypeId) (T : Ty α) (w : World) (F : Nat → Prop) : SlO e T w F (.slice none 0 0) [] :=
 ⟨[], fun _ => [], fun _ _ => False, World.ownsRow_nil w 0 _ _, fun b hb => by simp [Value.ownBlock] at hb, fun j hj => by simp at hj, fun i j hi => by simp at hi⟩
theorem slO_form {e : TypeId} {T : Ty α} {w : World} {F : Nat → Prop} {v : Value} {xs : List α} (h : SlO e T w F v xs) : (v = .slice none 0 0 ∧ xs = []) ∨ ∃ g cap, v = .slice (some ⟨g, 0, none⟩) xs.length cap ∧ F g ∧ g < w.heap.size := by
 obtain ⟨L, us, Fs, h1, h2, _⟩ := h
 rcases row_form h1 with ⟨e, h0⟩ | ⟨g, cap, e, hg⟩
 ·
  exact Or.inl ⟨e, List.eq_nil_of_length_eq_zero h0⟩
 ·
  exact Or.inr ⟨g, cap, e, h2 g (by rw [e]; rfl), hg⟩
theorem slO_len {e : TypeId} {T : Ty α} {w : World} {F : Nat → Prop} {v : Value} {xs : List α} (h : SlO e T w F v xs) : ∃ a cap, v = .slice a xs.length cap := by
 rcases slO_form h with ⟨e, e'⟩ | ⟨g, cap, e, _⟩
 ·
  exact ⟨none, 0, by rw [e, e']; rfl⟩
 ·
  exact ⟨_, cap, e⟩
/-- What 'make' owns. -/
theorem slO_made {e : TypeId} {T : Ty α} (A : T.Law) {w : World} {F : Nat → Prop} {g n B : Nat} {z : Array Value} (hz : z.size = T.n) (ho : T.O w (fun _ => False) z.toList T.d) (hF : F g)
  (h : w.ownsRow B e T.n (.slice (some ⟨g, 0, none⟩) n n) n (madeCells z (n * T.n)).toList) : SlO e T w F (.slice (some ⟨g, 0, none⟩) n n) (List.replicate n T.d) := by
 refine ⟨_, fun _ => z.toList, fun _ _ => False, by rw [List.length_replicate]; exact row_low h (Nat.zero_le _), fun b hb => ?_, fun j hj => ?_, fun i j _ _ _ b hb => False.elim hb⟩
 ·
  simp [Value.ownBlock] at hb; subst hb; exact hF
 ·
  rw [List.length_replicate] at hj
  have er : (List.replicate n T.d).getD j T.d = T.d := by simp [List.getD, hj]
  rw [er]
  refine ⟨fun i hi => ?_, ho, fun b hb => False.elim hb⟩
  have hlt : j * T.n + i < n * T.n := by
   have : (j + 1) * T.n ≤ n * T.n := Nat.mul_le_mul_right _ hj
   rw [Nat.add_mul, Nat.one_mul] at this; omega
  have hmod : (j * T.n + i) % z.size = i := by rw [hz, Nat.mul_comm, Nat.mul_add_mod, Nat.mod_eq_of_lt hi]
  rw [Array.getElem?_toList]
  unfold madeCells
  rw [Array.getElem?_map, Array.getElem?_range, if_pos hlt]
  have hi' : i < z.size := by omega
  simp [hmod, hi']
/-- An element is opened: its cells, its blocks; and what is owned when the element has turned. -/
theorem slO_open {e : TypeId} {T : Ty α} (A : T.Law) {w : World} {F : Nat → Prop} {g m cap : Nat} {xs : List α} (h : SlO e T w F (.slice (some ⟨g, 0, none⟩) m cap) xs) {j : Nat} (hj : j < xs.length) :
  m = xs.length ∧ F g ∧ g < w.heap.size ∧ ∃ (cs : List Value) (Fj : Nat → Prop) (L : List Value), w.ownsRow 0 e T.n (.slice (some ⟨g, 0, none⟩) xs.length cap) xs.length L ∧ (∀ i, i < T.n → L[j * T.n + i]? = cs[i]?) ∧ T.O w Fj cs (xs.getD j T.d) ∧ (∀ b, Fj b → F b ∧ b ≠ g ∧ b < w.heap.size) ∧
   ∀ (w' : World) (L' cs' : List Value) (Fj' : Nat → Prop) (x' : α), w'.ownsRow 0 e T.n (.slice (some ⟨g, 0, none⟩) xs.length cap) xs.length L' → (∀ o, (o < j * T.n ∨ j * T.n + T.n ≤ o) → L'[o]? = L[o]?) → (∀ i, i < T.n → L'[j * T.n + i]? = cs'[i]?) → T.O w' Fj' cs' x' → (∀ b, Fj' b → F b ∧ (Fj b ∨ w.heap.size ≤ b)) →
    Turn (fun b => b = g ∨ Fj b ∨ w.heap.size ≤ b) w w' → SlO e T w' F (.slice (some ⟨g, 0, none⟩) m cap) (xs.set j x') := by
 obtain ⟨L, us, Fs, h1, h2, h3, h4⟩ := slO_lt A h
 have hm : m = xs.length := by
  rcases h1.2 with ⟨h', _⟩ | ⟨_, _, _, h', _⟩
  ·
   simp at h'
  ·
   simp only [Value.slice.injEq] at h'; exact h'.2.1
 subst hm
 have hg := h2 g rfl
 refine ⟨rfl, hg.1, hg.2, us j, Fs j, L, h1, (h3 j hj).1, (h3 j hj).2.1, fun b hb => ?_, ?_⟩
 ·
  obtain ⟨⟨k1, k2⟩, k3⟩ := (h3 j hj).2.2 b hb
  exact ⟨k1, fun e => k3 (by rw [e]; rfl), k2⟩
 ·
  intro w' L' cs' Fj' x' g1 g2 g3 g4 g5 g6
  refine ⟨L', fun i => if i = j then cs' else us i, fun i => if i = j then Fj' else Fs i, by rw [List.length_set]; exact g1, fun b hb => (h2 b hb).1, fun i hi => ?_, fun a b ha hb hab c => ?_⟩
  ·
   rw [List.length_set] at hi
   by_cases eij : i = j
   ·
    subst eij
    have er : (xs.set i x').getD i T.d = x' := by simp [List.getD, hi]
    rw [er]
    simp only [if_true]
    refine ⟨g3, g4, fun b hb => ⟨(g5 b hb).1, ?_⟩⟩
    rcases (g5 b hb).2 with q | q
    ·
     exact ((h3 i hj).2.2 b q).2
    ·
     intro q2
     simp [Value.ownBlock] at q2
     omega
   ·
    have er : (xs.set j x').getD i T.d = xs.getD i T.d := by simp [List.getD, List.getElem?_set_ne (Ne.symm eij)]
    rw [er]
    simp only [if_neg eij]
    refine ⟨fun p hp => ?_, ?_, fun b hb => ⟨((h3 i hi).2.2 b hb).1.1, ((h3 i hi).2.2 b hb).2⟩⟩
    ·
     rw [g2 _ ?_]
     ·
      exact (h3 i hi).1 p hp
     ·
      rcases Nat.lt_or_gt_of_ne eij with q | q
      ·
       left
       have : (i + 1) * T.n ≤ j * T.n := Nat.mul_le_mul_right _ q
       rw [Nat.add_mul, Nat.one_mul] at this; omega
      ·
       right
       have : (j + 1) * T.n ≤ i * T.n := Nat.mul_le_mul_right _ q
       rw [Nat.add_mul, Nat.one_mul] at this; omega
    ·
     refine A.turn (h3 i hi).2.1 g6 (fun b hb hc => ?_)
     rcases hc with q | q | q
     ·
      exact ((h3 i hi).2.2 b hb).2 (by rw [q]; rfl)
     ·
      exact h4 i j hi hj eij b hb q
     ·
      have := ((h3 i hi).2.2 b hb).1.2; omega
  ·
   rw [List.length_set] at ha hb
   by_cases ea : a = j
   ·
    have eb : ¬ b = j := fun q => hab (ea.trans q.symm)
    simp only [if_pos ea, if_neg eb]
    intro q1 q2
    rcases (g5 c q1).2 with q | q
    ·
     exact h4 j b hj hb (fun q' => eb q'.symm) c q q2
    ·
     have := ((h3 b hb).2.2 c q2).1.2; omega
   ·
    by_cases eb : b = j
    ·
     simp only [if_neg ea, if_pos eb]
     intro q1 q2
     rcases (g5 c q2).2 with q | q
     ·
      exact h4 a j ha hj ea c q1 q
     ·
      have := ((h3 a ha).2.2 c q1).1.2; omega
    ·
     simp only [if_neg ea, if_neg eb]
     exact h4 a b ha hb hab c
/-- An element is appended. -/
theorem slO_app {e : TypeId} {T : Ty α} (A : T.Law) {w w' : World} {F Fn : Nat → Prop} {v v' : Value} {xs : List α} {x : α} {cs : List Value} {L : List Value} {us : Nat → List Value} {Fs : Nat → Nat → Prop}
  (h2 : ∀ b, v.ownBlock = some b → F b) (h3 : ∀ j, j < xs.length → (∀ i, i < T.n → L[j * T.n + i]? = (us j)[i]?) ∧ T.O w (Fs j) (us j) (xs.getD j T.d) ∧ ∀ b, Fs j b → (F b ∧ b < w.heap.size) ∧ v.ownBlock ≠ some b)
  (h4 : ∀ i j, i < xs.length → j < xs.length → i ≠ j → ∀ b, Fs i b → ¬ Fs j b) (hL : L.length = xs.length * T.n)
  (k1 : w'.ownsRow 0 e T.n v' (xs.length + 1) (L ++ cs)) (k2 : w.grownBy w' v.ownBlock) (k3 : ∀ b, v'.ownBlock = some b → v.ownBlock = some b ∨ (w.heap.size ≤ b ∧ F b))
  (hn : T.O w Fn cs x) (hc : cs.length = T.n) (hF : ∀ b, Fn b → F b ∧ b < w.heap.size ∧ v.ownBlock ≠ some b ∧ ∀ j, j < xs.length → ¬ Fs j b) : SlO e T w' F v' (xs ++ [x]) := by
 have hold : ∀ {G : Nat → Prop} {us : List Value} {y : α}, T.O w G us y → (∀ b, G b → v.ownBlock ≠ some b) → T.O w' G us y := fun h hd =>
  A.turn (G := fun b => v.ownBlock = some b) h (turn_grown k2 (fun b hb => hb)) (fun b hb => hd b hb)
 have hnew : ∀ b, b < w.heap.size → v.ownBlock ≠ some b → v'.ownBlock ≠ some b := fun b hb h1 h2 => by
  rcases k3 b h2 with q | q
  ·
   exact h1 q
  ·
   omega
 refine ⟨L ++ cs, fun j => if j < xs.length then us j else cs, fun j => if j < xs.length then Fs j else Fn, by rw [List.length_append]; exact k1, fun b hb => ?_, fun j hj => ?_, fun i j hi hj hij b => ?_⟩
 ·
  rcases k3 b hb with q | q
  ·
   exact h2 b q
  ·
   exact q.2
 ·
  rw [List.length_append, List.length_singleton] at hj
  by_cases hlt : j < xs.length
  ·
   have er : (xs ++ [x]).getD j T.d = xs.getD j T.d := by simp [List.getD, List.getElem?_append_left hlt]
   rw [er]
   simp only [if_pos hlt]
   obtain ⟨g1, g2, g3⟩ := h3 j hlt
   refine ⟨fun i hi => ?_, hold g2 (fun b hb => (g3 b hb).2), fun b hb => ⟨(g3 b hb).1.1, hnew b (g3 b hb).1.2 (g3 b hb).2⟩⟩
   have hl2 : j * T.n + i < L.length := by
    have : (j + 1) * T.n ≤ xs.length * T.n := Nat.mul_le_mul_right _ hlt
    rw [Nat.add_mul, Nat.one_mul] at this; omega
   rw [List.getElem?_append_left hl2]
   exact g1 i hi
  ·
   obtain rfl : j = xs.length := by omega
   have er : (xs ++ [x]).getD xs.length T.d = x := by simp [List.getD]
   rw [er]
   simp only [if_neg hlt]
   refine ⟨fun i hi => ?_, hold hn (fun b hb => (hF b hb).2.2.1), fun b hb => ⟨(hF b hb).1, hnew b (hF b hb).2.1 (hF b hb).2.2.1⟩⟩
   rw [List.getElem?_append_right (by omega), hL]
   simp
 ·
  rw [List.length_append, List.length_singleton] at hi hj
  by_cases h1 : i < xs.length
  ·
   by_cases h2 : j < xs.length
   ·
    simp only [if_pos h1, if_pos h2]; exact h4 i j h1 h2 hij b
   ·
    simp only [if_pos h1, if_neg h2]; exact fun q1 q2 => (hF b q2).2.2.2 i h1 q1
  ·
   by_cases h2 : j < xs.length
   ·
    simp only [if_neg h1, if_pos h2]; exact fun q1 q2 => (hF b q1).2.2.2 j h2 q2
   ·
    omega
theorem zTo_zero (T : Ty α) (xs : List α) : zTo T xs 0 = xs.length := by simp [zTo, sumN_zero]
theorem zTo_step {T : Ty α} {xs : List α} {k : Nat} (hk : k < xs.length) : zTo T xs (k + 1) = zTo T xs k + T.sz (xs.getD k T.d) := by
 unfold zTo; rw [sumN_step T.sz T.d hk]; omega
theorem zTo_le {T : Ty α} {xs : List α} {k : Nat} (hk : k ≤ xs.length) : zTo T xs k ≤ zL T xs := by
 unfold zL zTo; have := sumN_le T.sz hk; omega
theorem zL_at {T : Ty α} {xs : List α} {M : Nat} (hs : zL T xs ≤ M) {k : Nat} (hk : k < xs.length) : T.sz (xs.getD k T.d) ≤ M := by
 have h1 := zTo_step (T := T) hk
 have h2 := zTo_le (T := T) (xs := xs) (k := k + 1) (by omega)
 omega
theorem zL_len {T : Ty α} {xs : List α} {M : Nat} (hs : zL T xs ≤ M) : xs.length ≤ M := by
 have := zTo_le (T := T) (xs := xs) (Nat.zero_le _); rw [zTo_zero] at this; omega
theorem ndL_le {T : Ty α} (A : T.Law) (hs : T.s ≤ 16) (xs : List α) : ndL T xs ≤ 16 * zL T xs := by
 have := sum_map_le A.nd_le xs
 have h2 : T.s * xs.length ≤ 16 * xs.length := Nat.mul_le_mul_right _ hs
 unfold ndL zL zTo sumN
 rw [List.take_length]
 omega
theorem tSl_law {e : TypeId} {T : Ty α} (A : T.Law) (hs : T.s ≤ 16) : (tSl e T).Law where
 pos := Nat.one_pos
 len := fun {w cs x} h => by obtain ⟨v, rfl, _⟩ := h; rfl
 below := fun {W w cs x} h hb => by obtain ⟨v, e, h⟩ := h; exact ⟨v, e, slR_below A h hb⟩
 reads := fun {w F cs x} h => by obtain ⟨v, e, h⟩ := h; exact ⟨v, e, slO_reads A h⟩
 turn := fun {w w' F G cs x} h k hd => by obtain ⟨v, e, h⟩ := h; exact ⟨v, e, slO_turn A h k hd⟩
 mono := fun {w F F' cs x} h hf => by obtain ⟨v, e, h⟩ := h; exact ⟨v, e, slO_mono h hf⟩
 lt := fun {w F cs x} h => by obtain ⟨v, e, h⟩ := h; exact ⟨v, e, slO_lt A h⟩
 nd_le := fun x => ndL_le A hs x
 nv_le := fun x => ndL_le A hs x
theorem cTo_step {xs : List α} {d : α} {k : Nat} (h : k < xs.length) : (xs.take k ++ List.replicate (xs.length - k) d).set k (xs.getD k d) = xs.take (k + 1) ++ List.replicate (xs.length - (k + 1)) d := by
 have hk : (xs.take k).length = k := by rw [List.length_take]; omega
 rw [List.set_append_right _ _ (by omega), hk, Nat.sub_self, show xs.length - k = (xs.length - (k + 1)) + 1 by omega, List.replicate_succ, List.set_cons_zero, List.take_succ_eq_append_getElem h, List.append_assoc]
 simp [List.getD, h]
theorem cTo_len {xs : List α} {d : α} {k : Nat} (h : k ≤ xs.length) : (xs.take k ++ List.replicate (xs.length - k) d).length = xs.length := by simp; omega
end
/-- New blocks: those since w. -/
def since (w : World) : Nat → Prop := fun b => w.heap.size ≤ b
/-- A value in new memory is answered. -/
def FreshT {α : Type} (T : Ty α) (mk : List Value → Value) (w : World) (x : α) (e : Ending) (w' : World) : Prop := ∃ cs, e = .returned (mk cs) ∧ T.O w' (since w) cs x ∧ Below w.heap.size w w'
def FreshS {α : Type} (t : TypeId) (T : Ty α) (w : World) (xs : List α) (e : Ending) (w' : World) : Prop := ∃ v, e = .returned v ∧ SlO t T w' (since w) v xs ∧ Below w.heap.size w w'
theorem ty_ret {a b : Int} (h : a = b) : Ending.returned (.int .i64 a) = .returned (.int .i64 b) := by rw [h]
abbrev tIntS : Ty (List Int) := tSl 3 tInt
theorem tIntS_law : tIntS.Law := tSl_law tInt_law (by decide)
theorem ints_slR {w : World} {v : Value} {xs : List Int} (h : Ints w v xs) : SlR tInt w v xs := by
 rcases h with h | ⟨b, off, cap, h1, h2, h3, h4⟩
 ·
  exact Or.inl h
 ·
  refine Or.inr ⟨b, off, cap, fun j => [.int .i64 (xs.getD j 0)], h1, h2, h3, fun j hj => ⟨fun i hi => ?_, rfl⟩⟩
  have hi0 : i < 1 := hi
  obtain rfl : i = 0 := by omega
  have e : off + j * tInt.n + 0 = off + j := by show off + j * 1 + 0 = _; omega
  rw [e, h4 j hj]; rfl
theorem slR_ints {w : World} {v : Value} {xs : List Int} (h : SlR tInt w v xs) : Ints w v xs := by
 rcases h with h | ⟨b, off, cap, us, h1, h2, h3, h4⟩
 ·
  exact Or.inl h
 ·
  refine Or.inr ⟨b, off, cap, h1, h2, h3, fun j hj => ?_⟩
  have h5 := (h4 j hj).1 0 (by decide)
  have h6 : us j = [.int .i64 (xs.getD j 0)] := (h4 j hj).2
  have e : off + j * tInt.n + 0 = off + j := by show off + j * 1 + 0 = _; omega
  rw [e, h6] at h5
  exact h5
theorem zL_flat {α : Type} {T : Ty α} (h : ∀ x, T.sz x = 0) (xs : List α) : zL T xs = xs.length := by
 unfold zL zTo sumN
 have : ∀ l : List α, (l.map T.sz).sum = 0 := fun l => by
  induction l with
  | nil => rfl
  | cons x l ih => rw [List.map_cons, List.sum_cons, h x, ih]
 rw [this]; rfl
theorem zL_ints (xs : List Int) : zL tInt xs = xs.length := zL_flat (fun _ => rfl) xs
theorem own_slO {w : World} {F : Nat → Prop} {v : Value} {xs : List Int} {B : Nat} (h : OwnsN w B v xs) (hF : ∀ b, v.ownBlock = some b → F b) : SlO 3 tInt w F v xs := by
 refine ⟨_, fun j => [.int .i64 (xs.getD j 0)], fun _ _ => False, row_low h (Nat.zero_le _), hF, fun j hj => ⟨fun i hi => ?_, rfl, fun b hb => False.elim hb⟩, fun i j _ _ _ b hb => False.elim hb⟩
 have hi0 : i < 1 := hi
 obtain rfl : i = 0 := by omega
 have e : j * tInt.n + 0 = j := by show j * 1 + 0 = _; omega
 rw [e]
 simp [List.getD, hj]
/-- Numbers in new memory, either way. -/
theorem fresh_ints {w w' : World} {v : Value} {xs : List Int} (h : OwnsN w' w.heap.size v xs) : SlO 3 tInt w' (since w) v xs := own_slO h (fun b hb => (h.lt b hb).1)
def tCond : Ty (Int × Int × Int) := tPair tInt (tPair tInt tInt)
theorem tCond_law : tCond.Law := tPair_law tInt_law (tPair_law tInt_law tInt_law)
theorem tCond_R {w : World} {cs : List Value} {a0 : Int} {a1 : Int} {a2 : Int} (h : tCond.R w cs (a0, a1, a2)) : cs = [.int .i64 a0, .int .i64 a1, .int .i64 a2] := by
 obtain ⟨_, _, rfl, rfl, ⟨_, _, rfl, rfl, rfl⟩⟩ := h
 rfl
theorem tCond_mkR {w : World} {a0 : Int} {a1 : Int} {a2 : Int}  : tCond.R w [.int .i64 a0, .int .i64 a1, .int .i64 a2] (a0, a1, a2) := ⟨[.int .i64 a0], [.int .i64 a1, .int .i64 a2], rfl, rfl, ⟨[.int .i64 a1], [.int .i64 a2], rfl, rfl, rfl⟩⟩
theorem tCond_mkO {w : World} {F : Nat → Prop} {a0 : Int} {a1 : Int} {a2 : Int}    : tCond.O w F [.int .i64 a0, .int .i64 a1, .int .i64 a2] (a0, a1, a2) := ⟨[.int .i64 a0], [.int .i64 a1, .int .i64 a2], fun _ => False, fun _ => False, rfl, rfl, ⟨[.int .i64 a1], [.int .i64 a2], fun _ => False, fun _ => False, rfl, rfl, rfl, (fun b h => (False.elim h)), (fun b h => (False.elim h)), (fun b h g => (False.elim h))⟩, (fun b h => (False.elim h)), (fun b h => (False.elim h)), (fun b h g => (False.elim h))⟩
abbrev tCondS : Ty (List (Int × Int × Int)) := tSl 124 tCond
theorem tCondS_law : tCondS.Law := tSl_law tCond_law (by decide)
def tQuery : Ty (Int × Int × List (Int × Int × Int) × List Int) := tPair tInt (tPair tInt (tPair tCondS tIntS))
theorem tQuery_law : tQuery.Law := tPair_law tInt_law (tPair_law tInt_law (tPair_law tCondS_law tIntS_law))
theorem tQuery_R {w : World} {cs : List Value} {a0 : Int} {a1 : Int} {x2 : List (Int × Int × Int)} {x3 : List Int} (h : tQuery.R w cs (a0, a1, x2, x3)) : ∃ v2 v3, cs = [.int .i64 a0, .int .i64 a1, v2, v3] ∧ SlR tCond w v2 x2 ∧ SlR tInt w v3 x3 := by
 obtain ⟨_, _, rfl, rfl, ⟨_, _, rfl, rfl, ⟨_, _, rfl, ⟨v2, rfl, h2⟩, ⟨v3, rfl, h3⟩⟩⟩⟩ := h
 exact ⟨_, _, rfl, h2, h3⟩
theorem tQuery_mkR {w : World} {a0 : Int} {a1 : Int} {x2 : List (Int × Int × Int)} {x3 : List Int} {v2 v3 : Value} (h2 : SlR tCond w v2 x2) (h3 : SlR tInt w v3 x3) : tQuery.R w [.int .i64 a0, .int .i64 a1, v2, v3] (a0, a1, x2, x3) := ⟨[.int .i64 a0], [.int .i64 a1, v2, v3], rfl, rfl, ⟨[.int .i64 a1], [v2, v3], rfl, rfl, ⟨[v2], [v3], rfl, ⟨_, rfl, h2⟩, ⟨_, rfl, h3⟩⟩⟩⟩
theorem tQuery_sz {a0 : Int} {a1 : Int} {x2 : List (Int × Int × Int)} {x3 : List Int} : tQuery.sz (a0, a1, x2, x3) = zL tCond x2 + zL tInt x3 := by
 simp only [tQuery, tPair_sz, tPair_nd, tPair_nv, tInt_sz, tInt_nd, tInt_nv, tSl_sz, tSl_nd, tSl_nv]
 try omega
theorem tQuery_O {w : World} {F : Nat → Prop} {cs : List Value} {a0 : Int} {a1 : Int} {x2 : List (Int × Int × Int)} {x3 : List Int} (h : tQuery.O w F cs (a0, a1, x2, x3)) : ∃ v2 v3, ∃ F2 F3 : Nat → Prop, cs = [.int .i64 a0, .int .i64 a1, v2, v3] ∧ SlO 124 tCond w F2 v2 x2 ∧ SlO 3 tInt w F3 v3 x3 ∧ (∀ b, F2 b → F b) ∧ (∀ b, F3 b → F b) ∧ (∀ b, F2 b → ¬ F3 b) := by
 obtain ⟨_, _, F0_1, F0_2, rfl, rfl, ⟨_, _, F1_1, F1_2, rfl, rfl, ⟨_, _, F2_1, F2_2, rfl, ⟨v2, rfl, h2⟩, ⟨v3, rfl, h3⟩, s2_1, s2_2, d2⟩, s1_1, s1_2, d1⟩, s0_1, s0_2, d0⟩ := h
 exact ⟨v2, v3, F2_1, F2_2, rfl, h2, h3, fun b h => (s0_2 b (s1_2 b (s2_1 b h))), fun b h => (s0_2 b (s1_2 b (s2_2 b h))), fun b h h2 => d2 b h h2⟩
theorem tQuery_mkO {w : World} {F : Nat → Prop} {a0 : Int} {a1 : Int} {x2 : List (Int × Int × Int)} {x3 : List Int} {v2 v3 : Value} {F2 F3 : Nat → Prop} (h2 : SlO 124 tCond w F2 v2 x2) (h3 : SlO 3 tInt w F3 v3 x3) (s2 : ∀ b, F2 b → F b) (s3 : ∀ b, F3 b → F b) (d2_3 : ∀ b, F2 b → ¬ F3 b) : tQuery.O w F [.int .i64 a0, .int .i64 a1, v2, v3] (a0, a1, x2, x3) := ⟨[.int .i64 a0], [.int .i64 a1, v2, v3], fun _ => False, fun b => F2 b ∨ (F3 b), rfl, rfl, ⟨[.int .i64 a1], [v2, v3], fun _ => False, fun b => F2 b ∨ (F3 b), rfl, rfl, ⟨[v2], [v3], F2, F3, rfl, ⟨_, rfl, h2⟩, ⟨_, rfl, h3⟩, (fun b h => (Or.inl h)), (fun b h => (Or.inr h)), (fun b h g => d2_3 b h g)⟩, (fun b h => (False.elim h)), (fun b h => (h.elim (fun q0 => (Or.inl q0)) (fun q0 => (Or.inr q0)))), (fun b h g => (False.elim h))⟩, (fun b h => (False.elim h)), (fun b h => (h.elim (fun q0 => s2 b q0) (fun q0 => s3 b q0))), (fun b h g => (False.elim h))⟩
abbrev tQueryS : Ty (List (Int × Int × List (Int × Int × Int) × List Int)) := tSl 63 tQuery
def tSpan : Ty (Int × Int × List Int) := tPair tInt (tPair tInt tIntS)
theorem tSpan_law : tSpan.Law := tPair_law tInt_law (tPair_law tInt_law tIntS_law)
theorem tSpan_R {w : World} {cs : List Value} {a0 : Int} {a1 : Int} {x2 : List Int} (h : tSpan.R w cs (a0, a1, x2)) : ∃ v2, cs = [.int .i64 a0, .int .i64 a1, v2] ∧ SlR tInt w v2 x2 := by
 obtain ⟨_, _, rfl, rfl, ⟨_, _, rfl, rfl, ⟨v2, rfl, h2⟩⟩⟩ := h
 exact ⟨_, rfl, h2⟩
theorem tSpan_sz {a0 : Int} {a1 : Int} {x2 : List Int} : tSpan.sz (a0, a1, x2) = zL tInt x2 := by
 simp only [tSpan, tPair_sz, tPair_nd, tPair_nv, tInt_sz, tInt_nd, tInt_nv, tSl_sz, tSl_nd, tSl_nv]
 try omega
theorem tSpan_mkO {w : World} {F : Nat → Prop} {a0 : Int} {a1 : Int} {x2 : List Int} {v2 : Value} {F2 : Nat → Prop} (h2 : SlO 3 tInt w F2 v2 x2) (s2 : ∀ b, F2 b → F b)  : tSpan.O w F [.int .i64 a0, .int .i64 a1, v2] (a0, a1, x2) := ⟨[.int .i64 a0], [.int .i64 a1, v2], fun _ => False, F2, rfl, rfl, ⟨[.int .i64 a1], [v2], fun _ => False, F2, rfl, rfl, ⟨_, rfl, h2⟩, (fun b h => (False.elim h)), (fun b h => h), (fun b h g => (False.elim h))⟩, (fun b h => (False.elim h)), (fun b h => s2 b h), (fun b h g => (False.elim h))⟩
abbrev tSpanS : Ty (List (Int × Int × List Int)) := tSl 43 tSpan
theorem tSpanS_law : tSpanS.Law := tSl_law tSpan_law (by decide)
abbrev tSpanSS : Ty (List (List (Int × Int × List Int))) := tSl 37 tSpanS
theorem Tryd.info_SpanS : (Tryd.prog.info? 37).map (fun i => (i.zero, i.size)) = some (some (.slice none 0 0), 1) := by kernel_rfl
theorem Tryd.bytes_SpanS : ((Tryd.prog.info? 37).map (fun i => decide (i.bytes ≤ 512))) = some true := by kernel_rfl
theorem tSpanS_zero (w : World) : tSpanS.O w (fun _ => False) #[.slice none 0 0].toList tSpanS.d := ⟨_, rfl, slO_nil _ _ _ _⟩
def tIndex : Ty (List (Int × Int × List (Int × Int × Int) × List Int) × List (List (Int × Int × List Int))) := tPair tQueryS tSpanSS
theorem tIndex_O {w : World} {F : Nat → Prop} {cs : List Value} {x0 : List (Int × Int × List (Int × Int × Int) × List Int)} {x1 : List (List (Int × Int × List Int))} (h : tIndex.O w F cs (x0, x1)) : ∃ v0 v1, ∃ F0 F1 : Nat → Prop, cs = [v0, v1] ∧ SlO 63 tQuery w F0 v0 x0 ∧ SlO 37 tSpanS w F1 v1 x1 ∧ (∀ b, F0 b → F b) ∧ (∀ b, F1 b → F b) ∧ (∀ b, F0 b → ¬ F1 b) := by
 obtain ⟨_, _, F0_1, F0_2, rfl, ⟨v0, rfl, h0⟩, ⟨v1, rfl, h1⟩, s0_1, s0_2, d0⟩ := h
 exact ⟨v0, v1, F0_1, F0_2, rfl, h0, h1, fun b h => (s0_1 b h), fun b h => (s0_2 b h), fun b h h2 => d0 b h h2⟩
theorem tIndex_mkO {w : World} {F : Nat → Prop} {x0 : List (Int × Int × List (Int × Int × Int) × List Int)} {x1 : List (List (Int × Int × List Int))} {v0 v1 : Value} {F0 F1 : Nat → Prop} (h0 : SlO 63 tQuery w F0 v0 x0) (h1 : SlO 37 tSpanS w F1 v1 x1) (s0 : ∀ b, F0 b → F b) (s1 : ∀ b, F1 b → F b) (d0_1 : ∀ b, F0 b → ¬ F1 b) : tIndex.O w F [v0, v1] (x0, x1) := ⟨[v0], [v1], F0, F1, rfl, ⟨_, rfl, h0⟩, ⟨_, rfl, h1⟩, (fun b h => s0 b h), (fun b h => s1 b h), (fun b h g => d0_1 b h g)⟩
theorem Tryd.infoSpan : (Tryd.prog.info? 43).map (fun i => (i.zero, i.size)) = some (some (.agg #[.int .i64 0, .int .i64 0, .slice none 0 0]), 3) := by kernel_rfl
theorem span_bytes : (Tryd.prog.info? 43).map (fun i => i.bytes) = some 40 := by kernel_rfl
/-- The slice v owns the spans rs, in blocks from B on, each block once. -/
def OwnsP (w : World) (B : Nat) (v : Value) (rs : List SpanD) : Prop :=
 ∃ (cs : List Value) (vs : Nat → Value), w.ownsRow B 43 3 v rs.length cs ∧
  (∀ j, j < rs.length → cs[j * 3]? = some (.int .i64 (rs.getD j p0D).1) ∧ cs[j * 3 + 1]? = some (.int .i64 (rs.getD j p0D).2.1) ∧ cs[j * 3 + 2]? = some (vs j) ∧ OwnsN w B (vs j) (rs.getD j p0D).2.2 ∧ ∀ b, (vs j).ownBlock = some b → v.ownBlock ≠ some b) ∧
  ∀ i j, i < rs.length → j < rs.length → i ≠ j → ∀ b, (vs i).ownBlock = some b → (vs j).ownBlock ≠ some b
theorem ownsP_len {w : World} {B : Nat} {v : Value} {rs : List SpanD} (h : OwnsP w B v rs) : ∃ a cap, v = .slice a rs.length cap := by
 obtain ⟨cs, vs, h1, _⟩ := h
 rcases h1.2 with ⟨rfl, h0⟩ | ⟨g, cap, cur, rfl, _⟩
 ·
  exact ⟨none, 0, by rw [h0]⟩
 ·
  exact ⟨_, cap, rfl⟩
theorem ownsP_spans {w : World} {B : Nat} {v : Value} {rs : List SpanD} (h : OwnsP w B v rs) : SpansR w v rs := by
 obtain ⟨cs, vs, h1, h2, _⟩ := h
 have h1' := h1
 rcases h1.2 with ⟨rfl, h0⟩ | ⟨g, cap, cur, rfl, hb, hg, hn, hm, hcs, htake⟩
 ·
  exact Or.inl ⟨List.eq_nil_of_length_eq_zero h0, none, 0, rfl⟩
 ·
  refine Or.inr ⟨g, 0, cap, vs, rfl, hn, (Array.getElem?_eq_some_iff.1 hg).1, fun j hj => ?_⟩
  obtain ⟨g1, g2, g3, g4, _⟩ := h2 j hj
  refine ⟨?_, ?_, ?_, ownsN_ints g4⟩
  ·
   rw [Nat.zero_add, World.ownsRow.cellAt h1' (j * 3) (by omega)]; exact g1
  ·
   rw [Nat.zero_add, World.ownsRow.cellAt h1' (j * 3 + 1) (by omega)]; exact g2
  ·
   rw [Nat.zero_add, World.ownsRow.cellAt h1' (j * 3 + 2) (by omega)]; exact g3
theorem ownsP_below {w w' : World} {B : Nat} {v : Value} {rs : List SpanD} (h : OwnsP w B v rs) (hb : Below w.heap.size w w') : OwnsP w' B v rs := by
 obtain ⟨cs, vs, h1, h2, h3⟩ := h
 exact ⟨cs, vs, ownsRow_below h1 hb, fun j hj => ⟨(h2 j hj).1, (h2 j hj).2.1, (h2 j hj).2.2.1, ownsN_below (h2 j hj).2.2.2.1 hb, (h2 j hj).2.2.2.2⟩, h3⟩
theorem ownsP_up {w : World} {B C : Nat} {v : Value} {rs : List SpanD} (h : OwnsP w C v rs) (hb : B ≤ C) : OwnsP w B v rs := by
 obtain ⟨cs, vs, h1, h2, h3⟩ := h
 refine ⟨cs, vs, ⟨h1.1, ?_⟩, fun j hj => ⟨(h2 j hj).1, (h2 j hj).2.1, (h2 j hj).2.2.1, ownsN_up (h2 j hj).2.2.2.1 hb, (h2 j hj).2.2.2.2⟩, h3⟩
 rcases h1.2 with hn | ⟨g, cap, cur, e, hb', rest⟩
 ·
  exact .inl hn
 ·
  exact .inr ⟨g, cap, cur, e, Nat.le_trans hb hb', rest⟩
theorem slR_spans {w : World} {v : Value} {rs : List SpanD} (h : SlR tSpan w v rs) : SpansR w v rs := by
 rcases h with h | ⟨b, off, cap, us, h1, h2, h3, h4⟩
 ·
  exact Or.inl h
 ·
  refine Or.inr ⟨b, off, cap, fun j => (us j).getD 2 (.slice none 0 0), h1, h2, h3, fun j hj => ?_⟩
  obtain ⟨hc, hR⟩ := h4 j hj
  obtain ⟨v2, e, g2⟩ := tSpan_R (a0 := (rs.getD j p0D).1) (a1 := (rs.getD j p0D).2.1) (x2 := (rs.getD j p0D).2.2) hR
  have c0 := hc 0 (by decide); have c1 := hc 1 (by decide); have c2 := hc 2 (by decide)
  simp only [e] at c0 c1 c2 ⊢
  exact ⟨c0, c1, c2, slR_ints g2⟩
theorem zL_spans (rs : List SpanD) : zL tSpan rs = zpL rs := by
 have hf : tSpan.sz = fun r : SpanD => r.2.2.length := by
  funext r; obtain ⟨a, b, x⟩ := r; rw [tSpan_sz, zL_ints]
 unfold zL zTo zpL zpTo sumN
 rw [hf]
theorem ownsP_slO {w : World} {B : Nat} {F : Nat → Prop} {v : Value} {rs : List SpanD} (h : OwnsP w B v rs) (hF : ∀ b, B ≤ b → F b) : SlO 43 tSpan w F v rs := by
 obtain ⟨cs, vs, h1, h2, h3⟩ := h
 refine ⟨cs, fun j => [.int .i64 (rs.getD j p0D).1, .int .i64 (rs.getD j p0D).2.1, vs j], fun j b => (vs j).ownBlock = some b, row_low h1 (Nat.zero_le _), fun b hb => hF b (h1.lt b hb).1, fun j hj => ?_, fun i j hi hj hij b hb hc => h3 i j hi hj hij b hb hc⟩
 obtain ⟨g0, g1, g2, g3, g4⟩ := h2 j hj
 refine ⟨fun i hi => ?_, tSpan_mkO (own_slO g3 (fun b hb => hb)) (fun b hb => hb), fun b hb => ⟨hF b (g3.lt b hb).1, g4 b hb⟩⟩
 have hi' : i < 3 := hi
 exact (match i, hi' with | 0, _ => g0 | 1, _ => g1 | 2, _ => g2)
theorem fresh_spans {w w' : World} {v : Value} {rs : List SpanD} (h : OwnsP w' w.heap.size v rs) : SlO 43 tSpan w' (since w) v rs := ownsP_slO h (fun b hb => hb)
/-- A slice of spans in new memory is answered. -/
def FreshSpans (w : World) (rs : List SpanD) (e : Ending) (w' : World) : Prop := ∃ v, e = .returned v ∧ OwnsP w' w.heap.size v rs ∧ Below w.heap.size w w'
theorem zpL_span {rs : List SpanD} {k : Nat} (h : zpL rs ≤ 1048576) (hlt : k < rs.length) : (rs.getD k p0D).2.2.length ≤ 1048576 := by
 have h1 := zpTo_step hlt
 have h2 := zpTo_le (rs := rs) (k := k + 1) (by omega)
 omega
end Go.Proofs.YtededfficggkaaaDoor
