/-
  Texts of the proof, merged: Draw, Dr, Sd, Draws, ChgDraw, ChgDraw2, SetDraw, RowDraw, RowsDraw, QueryDraw, QueryDraw2, QueriesDraw, QueryDrawV, QueriesDrawV, IdxDraw, IdxDraw2, CodeOpen, IdxDraw3, IdxAid, ChgLaw.
-/
import Derived.Test.YtjeaimdnddelpaaDoorFC2
import Derived.WalkSpells
import Derived.BigQuiet
import Derived.Deep.QuietTactic
import Derived.Deep.RegionHeld3
import Derived.Deep.Cut
import Derived.IntWalk
import Derived.Lib.MinMax
import Derived.WalkKit
import Derived.ProofKit
import Derived.OpenShut
import Derived.Carry
namespace Go.Proofs.YtjeaimdnddelpaaDoor
open Go.RowKit
set_option linter.unusedVariables false
theorem below_small (w0 : World) (c : Nat) (v : Value) (xs : List Int) (w : World) (hC : Cur w0 c v xs w) (n : Int) (h1 : 1 ≤ n) (h2 : n ≤ 256) :
    Calls Tryd.prog 39 #[.pointer (some ⟨c, 0, none⟩), .int .i64 n] w (Drawn w0 c v xs w (n - 1)) := by
  have hn : (n == 0) = false := by rw [beq_eq_false_iff_ne]; omega
  go_enter Tryd.func39, Tryd.ntmps39
  go_wp2_with (go_at_call 53; refine (byte_any _ _ _ _ _ (by assumption)).mono ?_; rintro e w1 ⟨x, x0, x1, rfl, hC1, hg1⟩)
  go_ret
  exact ⟨_, Int.emod_nonneg _ (by omega), by have := Int.emod_lt_of_pos x (show 0 < n by omega); omega, rfl, hC1, hg1⟩
theorem below_large (w0 : World) (c : Nat) (v : Value) (xs : List Int) (w : World) (hC : Cur w0 c v xs w) (n : Int) (h1 : 256 < n) (h2 : n ≤ 1000000000) :
    Calls Tryd.prog 39 #[.pointer (some ⟨c, 0, none⟩), .int .i64 n] w (Drawn w0 c v xs w (n - 1)) := by
  have hn : (n == 0) = false := by rw [beq_eq_false_iff_ne]; omega
  go_enter Tryd.func39, Tryd.ntmps39
  go_wp2_with fail
  refine (byte_any _ _ _ _ _ hC).mono ?_
  rintro e w1 ⟨x, x0, x1, rfl, hC1, hg1⟩
  go_wp2_with fail
  refine (byte_any _ _ _ _ _ hC1).mono ?_
  rintro e w2 ⟨y, y0, y1, rfl, hC2, hg2⟩
  go_wp2_with fail
  refine (byte_any _ _ _ _ _ hC2).mono ?_
  rintro e w3 ⟨z, z0, z1, rfl, hC3, hg3⟩
  go_wp2_with fail
  refine (byte_any _ _ _ _ _ hC3).mono ?_
  rintro e w4 ⟨t, t0, t1, rfl, hC4, hg4⟩
  go_wp2
  go_ret
  exact ⟨_, Int.emod_nonneg _ (by omega), by have := Int.emod_lt_of_pos (x * 16777216 + y * 65536 + z * 256 + t) (show 0 < n by omega); omega, rfl, hC4, grown_chain hg1 (grown_chain hg2 (grown_chain hg3 hg4))⟩
theorem below_any (w0 : World) (c : Nat) (v : Value) (xs : List Int) (w : World) (hC : Cur w0 c v xs w) (n : Int) (h1 : 1 ≤ n) (h2 : n ≤ 1000000000) :
    Calls Tryd.prog 39 #[.pointer (some ⟨c, 0, none⟩), .int .i64 n] w (Drawn w0 c v xs w (n - 1)) := by
  by_cases h : n ≤ 256
  · exact below_small w0 c v xs w hC n h1 h
  · exact below_large w0 c v xs w hC n (by omega) h2
/-- A number between lo and hi is drawn. -/
def DrawnIn (w0 : World) (c : Nat) (v : Value) (xs : List Int) (w : World) (lo hi : Int) (e : Ending) (w' : World) : Prop :=
  ∃ x : Int, lo ≤ x ∧ x ≤ hi ∧ e = .returned (.int .i64 x) ∧ Cur w0 c v xs w' ∧ w.grownBy w' (some c)
theorem pick_any (w0 : World) (c : Nat) (v : Value) (xs : List Int) (w : World) (hC : Cur w0 c v xs w) (g : Nat) (L : List Int) (lo hi : Int) (hL : ∀ x ∈ L, lo ≤ x ∧ x ≤ hi) (h1 : 1 ≤ L.length) (h2 : L.length ≤ 256)
    (hg : w.heap[g]? = some (.cells (L.map (Value.int .i64)).toArray 3 (0, 0))) (hne : g ≠ c) :
    Calls Tryd.prog 46 #[.pointer (some ⟨c, 0, none⟩), .slice (some ⟨g, 0, none⟩) L.length L.length] w (DrawnIn w0 c v xs w lo hi) := by
  have HL := Lib.hid hL; clear hL
  have HG := Lib.hid hg; clear hg
  go_enter Tryd.func46, Tryd.ntmps46
  go_wp2_with fail
  refine (below_any w0 c v xs _ hC L.length (by omega) (by omega)).mono ?_
  rintro e w1 ⟨x, x0, x1, rfl, hC1, hg1⟩
  obtain ⟨k, rfl⟩ := Int.eq_ofNat_of_zero_le x0
  have hk : k < L.length := by omega
  have hcell : w1.cell? ⟨g, k, none⟩ = some (.int .i64 L[k]) := by
    have hgl := (Array.getElem?_eq_some_iff.1 HG.out).1
    have := cell_of_row w1 g k _ _ _ ((hg1.block g hgl (by intro e; simp at e; exact hne e)).trans HG.out)
    rw [this]; simp [hk]
  have hm := HL.out L[k] (List.getElem_mem hk)
  obtain ⟨m0, m1⟩ := hm
  generalize L[k] = y at hcell m0 m1
  go_wp2
  go_ret
  exact ⟨y, m0, m1, rfl, hC1, hg1⟩
theorem cur_alloc {w0 : World} {c : Nat} {v : Value} {xs : List Int} {w : World} (h : Cur w0 c v xs w) (o : Obj) : Cur w0 c v xs (w.alloc o) := by
  obtain ⟨h1, h2, h3, h4, ⟨i, hh, h5, h6⟩, h7⟩ := h
  refine ⟨h1, h2, h3, h4, ⟨i, hh, h5, ?_⟩, h7.alloc h7.size o⟩
  rw [Below.heap_alloc w o c (Array.getElem?_eq_some_iff.1 h6).1]; exact h6
theorem cur_lt {w0 : World} {c : Nat} {v : Value} {xs : List Int} {w : World} (h : Cur w0 c v xs w) : c < w.heap.size := by
  obtain ⟨_, _, _, _, ⟨i, hh, h5, h6⟩, _⟩ := h
  exact (Array.getElem?_eq_some_iff.1 h6).1
theorem cur_below {w0 : World} {c : Nat} {v : Value} {xs : List Int} {w w' : World} {B : Nat} (h : Cur w0 c v xs w) (hc : c < B) (h0 : w0.heap.size ≤ B) (hb : Below B w w') : Cur w0 c v xs w' := by
  obtain ⟨h1, h2, h3, h4, ⟨i, hh, h5, h6⟩, h7⟩ := h
  exact ⟨h1, h2, h3, h4, ⟨i, hh, h5, (hb.block c hc).trans h6⟩, h7.trans (hb.mono h0)⟩
theorem grown_below {a b b' : World} {c : Nat} (h : a.grownBy b (some c)) (hb : Below a.heap.size b b') : a.grownBy b' (some c) :=
  ⟨hb.os.trans h.os, hb.tape.trans h.tape, hb.output.trans h.output, Nat.le_trans h.size hb.size, fun k hk hn => (hb.block k hk).trans (h.block k hk hn)⟩
end Go.Proofs.YtjeaimdnddelpaaDoor
namespace Go.Proofs.YtjeaimdnddelpaaDoor
open Go.RowKit
set_option linter.unusedVariables false
set_option linter.unusedSimpArgs false
/-- The cursor goes on from w to wr; of what was there only the cursor turned. -/
structure Dr (w0 : World) (c : Nat) (v : Value) (xs : List Int) (w wr : World) : Prop where
  cur : Cur w0 c v xs wr
  gr : w.grownBy wr (some c)
  lt : c < w.heap.size
  low : w0.heap.size ≤ w.heap.size
theorem grownBy_refl (w : World) (r : Option Nat) : w.grownBy w r := ⟨rfl, rfl, rfl, Nat.le_refl _, fun _ _ _ => rfl⟩
theorem Dr.start {w0 : World} {c : Nat} {v : Value} {xs : List Int} {w : World} (h : Cur w0 c v xs w) : Dr w0 c v xs w w := ⟨h, grownBy_refl _ _, cur_lt h, h.old.size⟩
theorem Dr.alloc {w0 : World} {c : Nat} {v : Value} {xs : List Int} {w wr : World} (h : Dr w0 c v xs w wr) (o : Obj) : Dr w0 c v xs w (wr.alloc o) := ⟨cur_alloc h.cur o, grown_chain h.gr (World.grownBy_alloc wr o _), h.lt, h.low⟩
theorem Dr.call {w0 : World} {c : Nat} {v : Value} {xs : List Int} {w wr w' : World} (h : Dr w0 c v xs w wr) (hC : Cur w0 c v xs w') (hg : wr.grownBy w' (some c)) : Dr w0 c v xs w w' := ⟨hC, grown_chain h.gr hg, h.lt, h.low⟩
theorem Dr.below {w0 : World} {c : Nat} {v : Value} {xs : List Int} {w wr w' : World} {B : Nat} (h : Dr w0 c v xs w wr) (hb : Below B wr w') (hB : w.heap.size ≤ B) : Dr w0 c v xs w w' :=
  ⟨cur_below h.cur (Nat.lt_of_lt_of_le h.lt hB) (Nat.le_trans h.low hB) hb, grown_below h.gr (hb.mono hB), h.lt, h.low⟩
theorem Dr.set {w0 : World} {c : Nat} {v : Value} {xs : List Int} {w wr : World} (h : Dr w0 c v xs w wr) {R : Nat} (hR : w.heap.size ≤ R) (j : Nat) (u : Value) : Dr w0 c v xs w (wr.setCell ⟨R, j, none⟩ u) :=
  h.below ((Below.refl w.heap.size wr).setCell (p := ⟨R, j, none⟩) hR u) (Nat.le_refl _)
theorem Dr.size {w0 : World} {c : Nat} {v : Value} {xs : List Int} {w wr : World} (h : Dr w0 c v xs w wr) : w.heap.size ≤ wr.heap.size := h.gr.size
end Go.Proofs.YtjeaimdnddelpaaDoor
namespace Go.Proofs.YtjeaimdnddelpaaDoor
open Go.RowKit
set_option linter.unusedVariables false
set_option linter.unusedSimpArgs false
structure SD (W0 : World) (c : Nat) (v : Value) (xs : List Int) (w0 : World) (l : List Item) (w : World) : Prop where
  d : Dr W0 c v xs w0 w
  s : Sep l w
  lo : ∀ i ∈ l, ∀ b, i.F b → w0.heap.size ≤ b
section
variable {W0 w0 w w' : World} {c : Nat} {v : Value} {xs : List Int} {l : List Item}
theorem Dr.turn {G : Nat → Prop} (h : Dr W0 c v xs w0 w) (t : Turn G w w') (hG : ∀ b, G b → w0.heap.size ≤ b) : Dr W0 c v xs w0 w' :=
  h.below (B := w0.heap.size) ⟨t.os, t.tape, t.output, t.size, fun k hk => t.block k (by have := h.gr.size; omega) (fun g => by have := hG k g; omega)⟩ (Nat.le_refl _)
theorem SD.start (h : Cur W0 c v xs w) : SD W0 c v xs w [] w := ⟨Dr.start h, trivial, fun _ h => by cases h⟩
theorem SD.cur (h : SD W0 c v xs w0 l w) : Cur W0 c v xs w := h.d.cur
theorem SD.le (h : SD W0 c v xs w0 l w) : w0.heap.size ≤ w.heap.size := h.d.gr.size
theorem SD.below (h : SD W0 c v xs w0 l w) (cb : Below w.heap.size w w') : SD W0 c v xs w0 l w' :=
  ⟨h.d.below cb h.le, h.s.turn (turn_below cb) (fun _ _ _ _ => not_false), h.lo⟩
theorem SD.draw (h : SD W0 c v xs w0 l w) (hC : Cur W0 c v xs w') (hg : w.grownBy w' (some c)) : SD W0 c v xs w0 l w' :=
  ⟨h.d.call hC hg, h.s.turn (turn_grown (G := fun b => b = c) hg (fun b hb => (Option.some.inj hb).symm)) (fun i hi b hb e => by have := h.lo i hi b hb; have := h.d.lt; omega), h.lo⟩
theorem SD.drew (h : SD W0 c v xs w0 l w) : SD W0 c v xs w0 l w.drew := h.below ⟨rfl, rfl, rfl, Nat.le_refl _, fun _ _ => rfl⟩
theorem SD.alloc (h : SD W0 c v xs w0 l w) (o : Obj) : SD W0 c v xs w0 l (w.alloc o) := h.below ((Below.refl _ _).alloc (Nat.le_refl _) _)
theorem SD.cons (h : SD W0 c v xs w0 l w) (cb : Below w.heap.size w w') (i : Item) (hi : i.φ w') (hF : ∀ b, i.F b → w.heap.size ≤ b ∧ b < w'.heap.size) : SD W0 c v xs w0 (i :: l) w' :=
  ⟨(h.below cb).d, ⟨hi, fun b hb => ⟨(hF b hb).2, fun j hj q => by have h1 := h.s.lt j hj b q; have h2 := (hF b hb).1; omega⟩, (h.below cb).s⟩, fun j hj b hb => by
    rcases List.mem_cons.1 hj with rfl | hm
    · exact Nat.le_trans h.le (hF b hb).1
    · exact h.lo j hm b hb⟩
theorem SD.box (h : SD W0 c v xs w0 l w) (cs : List Value) (t : TypeId) : SD W0 c v xs w0 (iB w.heap.size cs t :: l) (w.alloc (.cells cs.toArray t)) :=
  h.cons ((Below.refl _ _).alloc (Nat.le_refl _) _) (iB w.heap.size cs t) (heap_alloc_new w _) (fun b hb => by have hb : b = w.heap.size := hb; subst hb; exact ⟨Nat.le_refl _, by rw [World.size_alloc]; omega⟩)
theorem SD.empty {α : Type} {T : Ty α} (L : T.Law) (h : SD W0 c v xs w0 l w) (e : TypeId) : SD W0 c v xs w0 (iS e L (fun b => b = w.heap.size) (.slice (some ⟨w.heap.size, 0, none⟩) 0 0) [] :: l) (w.alloc (.cells #[] e)) :=
  h.cons ((Below.refl _ _).alloc (Nat.le_refl _) _) (iS e L (fun b => b = w.heap.size) _ []) (slO_empty w e _ rfl) (fun b hb => by have hb : b = w.heap.size := hb; subst hb; exact ⟨Nat.le_refl _, by rw [World.size_alloc]; omega⟩)
theorem SD.none {α : Type} {T : Ty α} (L : T.Law) (h : SD W0 c v xs w0 l w) (e : TypeId) : SD W0 c v xs w0 (iS e L (fun _ => False) (.slice none 0 0) [] :: l) w :=
  h.cons (Below.refl _ _) (iS e L (fun _ => False) _ []) (slO_nil _ _ _ _) (fun b hb => False.elim hb)
theorem SD.set (h : SD W0 c v xs w0 l w) (k : Nat) {i : Item} (e : l[k]? = some i) (i' : Item) (hF : ∀ b, i'.F b → i.F b) (t : Turn i.F w w') (hp : i'.φ w') : SD W0 c v xs w0 (l.set k i') w' :=
  ⟨h.d.turn t (fun b hb => h.lo i (List.mem_of_getElem? e) b hb), h.s.set k e i' hF t hp, fun j hj b hb => by
    rcases List.mem_or_eq_of_mem_set hj with q | rfl
    · exact h.lo j q b hb
    · exact h.lo i (List.mem_of_getElem? e) b (hF b hb)⟩
theorem SD.upd (h : SD W0 c v xs w0 l w) (k : Nat) {i : Item} (e : l[k]? = some i) (i' : Item) (hF : ∀ b, i'.F b → i.F b ∨ w.heap.size ≤ b) (hl : ∀ b, i'.F b → b < w'.heap.size) (t : Turn i.F w w') (hp : i'.φ w') : SD W0 c v xs w0 (l.set k i') w' :=
  ⟨h.d.turn t (fun b hb => h.lo i (List.mem_of_getElem? e) b hb), h.s.upd k e i' hF hl t hp, fun j hj b hb => by
    rcases List.mem_or_eq_of_mem_set hj with q | rfl
    · exact h.lo j q b hb
    · rcases hF b hb with r | r
      · exact h.lo i (List.mem_of_getElem? e) b r
      · exact Nat.le_trans h.le r⟩
theorem SD.appS {α : Type} {T : Ty α} {L : T.Law} {t : TypeId} (h : SD W0 c v xs w0 l w) (k : Nat) {F G : Nat → Prop} {u u' : Value} {ys zs : List α} (e : l[k]? = some (iS t L F u ys)) (o : SlO t T w' G u' zs) (n : Turn F w w') (hG : ∀ b, G b → F b ∨ w.heap.size ≤ b) : ∃ F', SD W0 c v xs w0 (l.set k (iS t L F' u' zs)) w' :=
  ⟨_, h.upd k e (iS t L (fun b => G b ∧ b < w'.heap.size) u' zs) (fun b hb => hG b hb.1) (fun b hb => hb.2) n (slO_lt L o)⟩
theorem SD.store (h : SD W0 c v xs w0 l w) (k : Nat) {b : Nat} {z : List Value} {t : TypeId} (e : l[k]? = some (iB b z t)) (cs : List Value) : SD W0 c v xs w0 (l.set k (iB b cs t)) (w.setRow b cs.toArray) :=
  h.set k e (iB b cs t) (fun _ q => q) turn_row (box_set (h.s.get k e))
theorem SD.gS {α : Type} {T : Ty α} {L : T.Law} {t : TypeId} (h : SD W0 c v xs w0 l w) (k : Nat) {F : Nat → Prop} {u : Value} {ys : List α} (e : l[k]? = some (iS t L F u ys)) : SlO t T w F u ys := h.s.get k e
theorem SD.rS {α : Type} {T : Ty α} {L : T.Law} {t : TypeId} (h : SD W0 c v xs w0 l w) (k : Nat) {F : Nat → Prop} {u : Value} {ys : List α} (e : l[k]? = some (iS t L F u ys)) : SlR T w u ys := slO_reads L (h.s.get k e)
theorem SD.gB (h : SD W0 c v xs w0 l w) (k : Nat) {b : Nat} {cs : List Value} {t : TypeId} (e : l[k]? = some (iB b cs t)) : w.heap[b]? = some (.cells cs.toArray t (0, 0)) := h.s.get k e
theorem SD.cell (h : SD W0 c v xs w0 l w) (k : Nat) {b : Nat} {cs : List Value} {t : TypeId} (e : l[k]? = some (iB b cs t)) (j : Nat) {u : Value} (hu : cs[j]? = some u) : w.cell? ⟨b, j, Option.none⟩ = some u := (cell_of_row w b j _ _ _ (h.gB k e)).trans (by simpa using hu)
theorem SD.froz (h : SD W0 c v xs w0 l w) (k : Nat) {b : Nat} {cs : List Value} {t : TypeId} (e : l[k]? = some (iB b cs t)) (j : Nat) : w.frozen? ⟨b, j, Option.none⟩ = false := frozen_of_row w b j _ _ (h.gB k e)
theorem SD.sub (h : SD W0 c v xs w0 l w) (idx : List Nat) (hn : idx.Nodup) : SD W0 c v xs w0 (idx.filterMap fun i => l[i]?) w :=
  ⟨h.d, h.s.sub idx hn, fun i hi b hb => by
    obtain ⟨n, _, hj'⟩ := List.mem_filterMap.1 hi
    exact h.lo i (List.mem_of_getElem? hj') b hb⟩
/-- What a callee drew comes to what the caller has. -/
theorem SD.join {m : List Item} (h : SD W0 c v xs w0 m w) (g : SD W0 c v xs w l w') : SD W0 c v xs w0 (l ++ m) w' := by
  have k := h.draw g.d.cur g.d.gr
  refine ⟨k.d, g.s.append k.s (fun j hj b hb n hn q => ?_), fun j hj b hb => ?_⟩
  · have := g.lo j hj b hb
    have := h.s.lt n hn b q
    omega
  · rcases List.mem_append.1 hj with q | q
    · exact Nat.le_trans h.le (g.lo j q b hb)
    · exact h.lo j q b hb
end
end Go.Proofs.YtjeaimdnddelpaaDoor
namespace Go.Proofs.YtjeaimdnddelpaaDoor
open Go.RowKit
set_option linter.unusedVariables false
theorem code_below {W w : World} {v : Value} {xs : List Int} (h : Code W v xs) (hb : Below W.heap.size W w) : Code w v xs := by
  rcases h with h | ⟨b, off, cap, h1, h2, h3, h4⟩
  · exact Or.inl h
  · exact Or.inr ⟨b, off, cap, h1, h2, Nat.lt_of_lt_of_le h3 hb.size, fun j hj => (hb.cell (p := ⟨b, off + j, none⟩) h3).trans (h4 j hj)⟩
/-- A new cursor. -/
def NewCur (v : Value) (xs : List Int) (w : World) (e : Ending) (w' : World) : Prop :=
  e = .returned (.pointer (some ⟨w.heap.size, 0, none⟩)) ∧ Cur w w.heap.size v xs w'
set_option maxRecDepth 100000 in
theorem new_any (v : Value) (xs : List Int) (w : World) (hcode : Code w v xs) (hsm : xs.length ≤ 1048576) (hby : ∀ x ∈ xs, 0 ≤ x ∧ x ≤ 255) :
    Calls Tryd.prog 27 #[v] w (NewCur v xs w) := by
  have HCODE := Lib.hid hcode
  have HBY := Lib.hid hby; clear hby
  rcases hcode with ⟨rfl, ao, cap, rfl⟩ | ⟨b, off, cap, rfl, hcap, hbl, hb⟩
  · go_enter Tryd.func27, Tryd.ntmps27
    go_wp2
    go_loop [3, 4] (fun h i => ∃ z : Int, i = .int .i64 0 ∧ h = .int .i64 z) (fun _ _ => 0)
    case atStart => exact ⟨_, rfl, rfl⟩
    case round =>
      obtain ⟨z, rfl, rfl⟩ := hrel
      go_wp2
      go_ret
      exact ⟨rfl, HCODE.out, hsm, HBY.out, Nat.le_refl _, ⟨0, _, Nat.le_refl _, heap_alloc_new w _⟩, (Below.refl _ _).alloc (Nat.le_refl _) _⟩
  · have HB := Lib.hid hb; clear hb
    go_enter Tryd.func27, Tryd.ntmps27
    go_wp2
    go_loop [3, 4] (fun h i => ∃ k : Nat, ∃ z : Int, k ≤ xs.length ∧ k ≤ 4000 ∧ i = .int .i64 k ∧ h = .int .i64 z) (fun _ i => 4000 - (intOf i).toNat)
    case atStart => exact ⟨0, _, by omega, by omega, rfl, rfl⟩
    case round =>
      obtain ⟨k, z, hk, hk4, rfl, rfl⟩ := hrel
      by_cases hlt : k < xs.length
      · by_cases h4 : k < 4000
        · have hcell := HB.out k hlt
          have i1 : (0 : Int) ≤ (k : Int) := by omega
          have i2 : (k : Int) < (xs.length : Int) := by omega
          generalize xs.getD k 0 = y at hcell
          go_wp2
          go_round
          case rel => exact ⟨k + 1, _, by omega, by omega, by go_num, rfl⟩
          case measure => simp [intOf]; omega
        · go_wp2
          go_ret
          exact ⟨rfl, HCODE.out, hsm, HBY.out, Nat.le_refl _, ⟨0, _, Nat.zero_le _, heap_alloc_new w _⟩, (Below.refl _ _).alloc (Nat.le_refl _) _⟩
      · have hge : ¬ ((k : Int) < (xs.length : Int)) := by omega
        go_wp2
        go_ret
        exact ⟨rfl, HCODE.out, hsm, HBY.out, Nat.le_refl _, ⟨0, _, Nat.zero_le _, heap_alloc_new w _⟩, (Below.refl _ _).alloc (Nat.le_refl _) _⟩
end Go.Proofs.YtjeaimdnddelpaaDoor
namespace Go.Proofs.YtjeaimdnddelpaaDoor
open Go.RowKit
set_option linter.unusedVariables false
set_option linter.unusedSimpArgs false
/-- A charge is drawn: what is owned, and what is read as long as it is owned. -/
def DrawnChg (W0 : World) (c : Nat) (v : Value) (xs : List Int) (w : World) (e : Ending) (w' : World) : Prop :=
  ∃ (cs : List Value) (x : ChargeD) (l : List Item), e = .returned (.agg cs.toArray) ∧ SD W0 c v xs w l w' ∧ (∀ u, Sep l u → tCharge.R u cs x) ∧ tCharge.sz x ≤ 16
theorem slR_tl {α : Type} {T : Ty α} {w : World} {b off n cap : Nat} {x : α} {xs : List α} (h : SlR T w (.slice (some ⟨b, off, none⟩) n cap) (x :: xs)) : SlR T w (.slice (some ⟨b, off + T.n, none⟩) (n - 1) (cap - 1)) xs := by
  rcases h with ⟨h, _⟩ | ⟨b', off', cap', us, hv, hc, hb, hj⟩
  · cases h
  · simp only [Value.slice.injEq, Option.some.injEq, Addr.mk.injEq] at hv
    obtain ⟨⟨rfl, rfl, _⟩, rfl, rfl⟩ := hv
    refine Or.inr ⟨b, off + T.n, cap - 1, fun j => us (j + 1), by simp, by simp at hc ⊢; omega, hb, fun j hj' => ?_⟩
    have q := hj (j + 1) (by simpa using hj')
    refine ⟨fun i hi => ?_, q.2⟩
    have e : off + T.n + j * T.n + i = off + (j + 1) * T.n + i := by rw [Nat.add_mul]; omega
    rw [e]; exact q.1 i hi
theorem cells5 {w : World} {b : Nat} {t : TypeId} {z0 z1 z2 z3 z4 y0 y1 y2 y3 y4 : Value} (h : w.heap[b]? = some (.cells #[z0, z1, z2, z3, z4] t (0, 0))) : (((((w.setCell ⟨b, 0, none⟩ y0).setCell ⟨b, 1, none⟩ y1).setCell ⟨b, 2, none⟩ y2).setCell ⟨b, 3, none⟩ y3).setCell ⟨b, 4, none⟩ y4) = w.setRow b #[y0, y1, y2, y3, y4] := by
  have s0 : w.setCell ⟨b, 0, none⟩ y0 = w.setRow b #[y0, z1, z2, z3, z4] := (setCell_box h 0 y0).trans (by simp)
  have s1 : (w.setRow b #[y0, z1, z2, z3, z4]).setCell ⟨b, 1, none⟩ y1 = w.setRow b #[y0, y1, z2, z3, z4] := (setCell_box (setRow_heap w b _ #[y0, z1, z2, z3, z4] t (0, 0) h) 1 y1).trans (by rw [setRow_setRow]; simp)
  have s2 : (w.setRow b #[y0, y1, z2, z3, z4]).setCell ⟨b, 2, none⟩ y2 = w.setRow b #[y0, y1, y2, z3, z4] := (setCell_box (setRow_heap w b _ #[y0, y1, z2, z3, z4] t (0, 0) h) 2 y2).trans (by rw [setRow_setRow]; simp)
  have s3 : (w.setRow b #[y0, y1, y2, z3, z4]).setCell ⟨b, 3, none⟩ y3 = w.setRow b #[y0, y1, y2, y3, z4] := (setCell_box (setRow_heap w b _ #[y0, y1, y2, z3, z4] t (0, 0) h) 3 y3).trans (by rw [setRow_setRow]; simp)
  have s4 : (w.setRow b #[y0, y1, y2, y3, z4]).setCell ⟨b, 4, none⟩ y4 = w.setRow b #[y0, y1, y2, y3, y4] := (setCell_box (setRow_heap w b _ #[y0, y1, y2, y3, z4] t (0, 0) h) 4 y4).trans (by rw [setRow_setRow]; simp)
  rw [s0, s1, s2, s3, s4]
theorem slR_caps {α : Type} {T : Ty α} {w : World} {a : Option Addr} {n cap : Nat} {xs : List α} (h : SlR T w (.slice a n cap) xs) : xs.length ≤ cap := by
  rcases h with ⟨rfl, _⟩ | ⟨b, off, c, us, hv, hc, _⟩
  · exact Nat.zero_le _
  · simp only [Value.slice.injEq] at hv; omega
theorem chg_read {u : World} {sg ba : Int} {u2 u3 u4 : Value} {F2 F3 F4 : Nat → Prop} {x2 x3 x4 : List Int} {l : List Item} (i j k : Nat) (h : Sep l u) (h2 : l[i]? = some (iS 3 tInt_law F2 u2 x2)) (h3 : l[j]? = some (iS 3 tInt_law F3 u3 x3)) (h4 : l[k]? = some (iS 3 tInt_law F4 u4 x4)) : tCharge.R u [.int .i64 sg, .int .i64 ba, u2, u3, u4] (sg, ba, x2, x3, x4) :=
  tCharge_mkR (slO_reads tInt_law (h.get i h2)) (slO_reads tInt_law (h.get j h3)) (slO_reads tInt_law (h.get k h4))
set_option maxHeartbeats 16000000 in
set_option maxRecDepth 100000 in
theorem charge_any (W0 : World) (c : Nat) (v : Value) (xs : List Int) (w : World) (hC : Cur W0 c v xs w) :
    Calls Tryd.prog 26 #[.pointer (some ⟨c, 0, none⟩)] w (DrawnChg W0 c v xs w) := by
  have SX := Lib.hid ((SD.start hC).box [.int .i64 0, .int .i64 0, .slice none 0 0, .slice none 0 0, .slice none 0 0] 26)
  clear hC
  go_enter Tryd.func26, Tryd.ntmps26
  go_wp2_with fail
  generalize (w.alloc (.cells #[.int .i64 0, .int .i64 0, .slice none 0 0, .slice none 0 0, .slice none 0 0] 26)) = wc at *
  refine (below_any W0 c v xs _ SX.out.cur (4) (by omega) (by omega)).mono ?_
  rintro e wn ⟨sg, sg0, sg1, rfl, hC, hg⟩
  replace SX := Lib.hid (SX.out.draw hC hg)
  clear hC hg
  rename World => wc
  go_wp2_with fail
  refine (below_any W0 c v xs _ SX.out.cur (5) (by omega) (by omega)).mono ?_
  rintro e wn ⟨ba, ba0, ba1, rfl, hC, hg⟩
  replace SX := Lib.hid (SX.out.draw hC hg)
  clear hC hg
  rename World => wc
  replace SX := Lib.hid (SX.out.box [.int .i64 sg, .int .i64 ba, .slice none 0 0, .slice none 0 0, .slice none 0 0] 26)
  replace SX := Lib.hid (((SX.out.none tInt_law 3).none tInt_law 3).none tInt_law 3)
  go_wp2_with fail
  generalize wc.heap.size = X at *
  generalize (wc.alloc (.cells #[.int .i64 sg, .int .i64 ba, .slice none 0 0, .slice none 0 0, .slice none 0 0] 26)) = wc at *
  refine (below_any W0 c v xs _ SX.out.cur (3) (by omega) (by omega)).mono ?_
  rintro e wn ⟨id, id0, id1, rfl, hC, hg⟩
  replace SX := Lib.hid (SX.out.draw hC hg)
  clear hC hg
  rename World => wc
  go_wp2_with fail
  refine (below_any W0 c v xs _ SX.out.cur (4) (by omega) (by omega)).mono ?_
  rintro e wn ⟨n, n0, n1, rfl, hC, hg⟩
  replace SX := Lib.hid (SX.out.draw hC hg)
  clear hC hg
  rename World => wc
  go_wp2
  replace SX := Lib.hid (SX.out.sub [3, 0, 1, 2, 4] (by decide))
  go_loopw [4, 5] (fun iv nv wr => ∃ (id m : Int) (u2 u3 u4 : Value) (F2 F3 F4 : Nat → Prop) (x2 x3 x4 : List Int), iv = .int .i64 id ∧ nv = .int .i64 m ∧ 0 ≤ m ∧ m ≤ 4 ∧ 0 ≤ id ∧ id ≤ 10 - 2 * m ∧ Hid ((1 ≤ (x2.length : Int) + m ∧ (x2.length : Int) + m ≤ 4) ∧ x3.length = x2.length ∧ x4.length = x2.length) ∧ Hid (SD W0 c v xs w [iB X [.int .i64 sg, .int .i64 ba, u2, u3, u4] 26, iS 3 tInt_law F2 u2 x2, iS 3 tInt_law F3 u3 x3, iS 3 tInt_law F4 u4 x4, iB w.heap.size [.int .i64 0, .int .i64 0, .slice none 0 0, .slice none 0 0, .slice none 0 0] 26] wr)) (fun _ nv _ => (intOf nv).toNat)
  case atStart => exact ⟨id, 1 + n, _, _, _, _, _, _, [], [], [], rfl, rfl, by omega, by omega, by omega, by omega, Lib.hid ⟨⟨by simp; omega, by simp; omega⟩, rfl, rfl⟩, SX⟩
  case round =>
    clear SX
    obtain ⟨id, m, u2, u3, u4, F2, F3, F4, x2, x3, x4, rfl, rfl, m0, m1, i0, i1, HL, SX⟩ := hrel
    generalize wr = wc at *
    obtain ⟨a2, c2, hu⟩ := slO_len (SX.out.gS 1 rfl)
    subst hu
    obtain ⟨a3, c3, hu⟩ := slO_len (SX.out.gS 2 rfl)
    subst hu
    obtain ⟨a4, c4, hu⟩ := slO_len (SX.out.gS 3 rfl)
    subst hu
    by_cases hm : 0 < m
    · have lc := cell5 (SX.out.gB 0 rfl)
      have SA := Lib.hid (SX.out.box [.int .i64 id] 3)
      go_wp2_with (at_builtin; refine append_flat tInt_law flat_int info_T_int Tryd.underlying24 rfl rfl (.tmp 21) (.tmp 23) rfl F2 (fun b => F2 b ∨ b = _) _ _ x2 [id] rfl rfl (SA.out.gS 2 rfl) (slR_num (SA.out.gB 0 rfl)) (fun _ h => Or.inl h) (Or.inr rfl) (by have := HL.out; simp; omega) ?_)
      replace SX := SA
      clear lc SA
      intro u' wn oN tN
      obtain ⟨F2, sp⟩ := SX.out.appS 2 rfl oN tN (fun b h => h.imp_right (fun q => by rw [q]; first | exact Nat.le_refl _ | simp))
      obtain ⟨b2, d2, hu⟩ := slO_len oN
      replace SX := Lib.hid sp
      clear sp oN tN
      have hl : (x2 ++ [id]).length = x2.length + 1 := by simp
      generalize x2 ++ [id] = y2 at *
      have HY2 := Lib.hid hl
      clear hl
      subst hu
      rename World => wc
      have lc := SX.out.cell 1 rfl 2 rfl
      have fz := SX.out.froz 1 rfl 2
      go_wp2
      clear lc fz
      have e := setCell_box (SX.out.gB 1 rfl) 2 (.slice b2 y2.length d2)
      simp only [List.setIfInBounds_toArray, List.set_cons_zero, List.set_cons_succ] at e
      rw [e]
      clear e
      replace SX := Lib.hid (SX.out.store 1 rfl [.int .i64 sg, .int .i64 ba, .slice b2 y2.length d2, .slice a3 x3.length c3, .slice a4 x4.length c4])
      generalize (wc.setRow X #[.int .i64 sg, .int .i64 ba, .slice b2 y2.length d2, .slice a3 x3.length c3, .slice a4 x4.length c4]) = wc at *
      replace SX := Lib.hid (SX.out.sub [1, 2, 3, 4, 5] (by decide))
      go_wp2
      refine wp_region_held_drew (S := fun _ => True) (by kernel_rfl) trivial (fun hHeld => ?_)
      replace SX := Lib.hid SX.out.drew
      generalize wc.drew = wc at *
      refine uQ 0 ?_
      try simp only [Act.put, List.setIfInBounds_toArray, List.set_cons_zero, List.set_cons_succ]
      refine uQ 2 ?_
      try simp only [Act.put, List.setIfInBounds_toArray, List.set_cons_zero, List.set_cons_succ]
      repeat' first
        | (have t := ‹Tok 1›
           clear tk t
           have lc := (show wc.heap[X]? = some (.cells #[.int .i64 sg, .int .i64 ba, .slice b2 y2.length d2, .slice a3 x3.length c3, .slice a4 x4.length c4] 26 (0, 0)) by first | exact SX.out.gB 0 rfl | exact SX.out.gB 1 rfl)
           have lc5 := cell5 lc
           clear lc
           go_simp
           clear lc5
           refine hK.out _ _ trivial (fun hHeld => ?_)
           clear hK K
           try simp only [Act.put, List.setIfInBounds_toArray, List.set_cons_zero, List.set_cons_succ])
        | (have t := ‹Tok 3›
           clear tk t
           go_simp
           refine (below_any W0 c v xs _ SX.out.cur (4) (by omega) (by omega)).mono ?_
           rintro e wn ⟨t, t0, t1, rfl, hC, hg⟩
           replace SX := Lib.hid (SX.out.draw hC hg)
           clear hC hg
           rename World => wc
           refine hK.out _ _ trivial (fun hHeld => ?_)
           clear hK K
           try simp only [Act.put, List.setIfInBounds_toArray, List.set_cons_zero, List.set_cons_succ])
        | (have t := ‹Tok 4›
           clear tk t
           replace SX := Lib.hid (SX.out.box [.int .i64 t] 3)
           go_simp
           generalize wc.heap.size = gb at *
           generalize (wc.alloc (.cells #[.int .i64 t] 3)) = wc at *
           refine hK.out _ _ trivial (fun hHeld => ?_)
           clear hK K
           try simp only [Act.put, List.setIfInBounds_toArray, List.set_cons_zero, List.set_cons_succ])
        | (have t := ‹Tok 5›
           clear tk t
           refine step_append_flat tInt_law flat_int info_T_int Tryd.underlying24 rfl rfl (.tmp 27) (.tmp 30) rfl F3 (fun b => F3 b ∨ b = _) _ _ x3 [t] rfl rfl (SX.out.gS 3 rfl) (slR_num (SX.out.gB 0 rfl)) (fun _ h => Or.inl h) (Or.inr rfl) (by have := HL.out; simp; omega) ?_
           intro u' wn oN tN
           obtain ⟨F3, sp⟩ := SX.out.appS 3 rfl oN tN (fun b h => h.imp_right (fun q => by rw [q]; first | exact Nat.le_refl _ | simp))
           obtain ⟨b3, d3, hu⟩ := slO_len oN
           replace SX := Lib.hid sp
           clear sp oN tN
           have hl : (x3 ++ [t]).length = x3.length + 1 := by simp
           generalize x3 ++ [t] = y3 at *
           have HY3 := Lib.hid hl
           clear hl
           subst hu
           rename World => wc
           refine hK.out _ _ trivial (fun hHeld => ?_)
           clear hK K
           try simp only [Act.put, List.setIfInBounds_toArray, List.set_cons_zero, List.set_cons_succ])
        | (have t := ‹Tok 7›
           clear tk t
           have lc := SX.out.cell 1 rfl 3 rfl
           have fz := SX.out.froz 1 rfl 3
           go_simp
           clear lc fz
           have e := setCell_box (SX.out.gB 1 rfl) 3 (.slice b3 y3.length d3)
           simp only [List.setIfInBounds_toArray, List.set_cons_zero, List.set_cons_succ] at e
           rw [e]
           clear e
           replace SX := Lib.hid (SX.out.store 1 rfl [.int .i64 sg, .int .i64 ba, .slice b2 y2.length d2, .slice b3 y3.length d3, .slice a4 x4.length c4])
           generalize (wc.setRow X #[.int .i64 sg, .int .i64 ba, .slice b2 y2.length d2, .slice b3 y3.length d3, .slice a4 x4.length c4]) = wc at *
           replace SX := Lib.hid (SX.out.sub [1, 2, 3, 4, 5] (by decide))
           refine hK.out _ _ trivial (fun hHeld => ?_)
           clear hK K
           try simp only [Act.put, List.setIfInBounds_toArray, List.set_cons_zero, List.set_cons_succ])
        | (refine uQ 6 ?_; try simp only [Act.put, List.setIfInBounds_toArray, List.set_cons_zero, List.set_cons_succ])
        | (refine u2 1 3 ?_ ?_ <;> intro K hK tk)
        | (refine u2 1 4 ?_ ?_ <;> intro K hK tk)
        | (refine u1 1 ?_ <;> intro K hK tk)
        | (refine u1 5 ?_ <;> intro K hK tk)
        | (refine u1 7 ?_ <;> intro K hK tk)
        | (refine u1 4 ?_ <;> intro K hK tk)
        | (refine u1 3 ?_ <;> intro K hK tk)
        | (refine uZ ?_
           clear hHeld
           have HW : Hid (IntKind.i64.wrap (ba + 1) = ba + 1) := Lib.hid (IntWalk.i64_in _ (by omega))
           go_wp2
           refine wp_region_held_drew (S := fun _ => True) (by kernel_rfl) trivial (fun hHeld => ?_)
           replace SX := Lib.hid SX.out.drew
           generalize wc.drew = wc at *
           refine uQ 0 ?_
           try simp only [Act.put, List.setIfInBounds_toArray, List.set_cons_zero, List.set_cons_succ]
           refine uQ 2 ?_
           try simp only [Act.put, List.setIfInBounds_toArray, List.set_cons_zero, List.set_cons_succ]
           refine uQ 3 ?_
           try simp only [Act.put, List.setIfInBounds_toArray, List.set_cons_zero, List.set_cons_succ]
           repeat' first
             | (have t := ‹Tok 1›
                clear tk t
                have lc := (show wc.heap[X]? = some (.cells #[.int .i64 sg, .int .i64 ba, .slice b2 y2.length d2, .slice b3 y3.length d3, .slice a4 x4.length c4] 26 (0, 0)) by first | exact SX.out.gB 0 rfl | exact SX.out.gB 1 rfl)
                have lc5 := cell5 lc
                clear lc
                go_simp
                clear lc5
                refine hK.out _ _ trivial (fun hHeld => ?_)
                clear hK K
                try simp only [Act.put, List.setIfInBounds_toArray, List.set_cons_zero, List.set_cons_succ])
             | (have t := ‹Tok 4›
                clear tk t
                have lc := (show wc.heap[X]? = some (.cells #[.int .i64 sg, .int .i64 ba, .slice b2 y2.length d2, .slice b3 y3.length d3, .slice a4 x4.length c4] 26 (0, 0)) by first | exact SX.out.gB 0 rfl | exact SX.out.gB 1 rfl)
                have lc5 := cell5 lc
                clear lc
                go_simp
                clear lc5
                refine hK.out _ _ trivial (fun hHeld => ?_)
                clear hK K
                try simp only [Act.put, List.setIfInBounds_toArray, List.set_cons_zero, List.set_cons_succ])
             | (have t := ‹Tok 6›
                clear tk t
                go_simp
                rw [HW.out]
                refine (below_any W0 c v xs _ SX.out.cur (ba + 1) (by omega) (by omega)).mono ?_
                rintro e wn ⟨r, r0, r1, rfl, hC, hg⟩
                replace SX := Lib.hid (SX.out.draw hC hg)
                clear hC hg
                rename World => wc
                refine hK.out _ _ trivial (fun hHeld => ?_)
                clear hK K
                try simp only [Act.put, List.setIfInBounds_toArray, List.set_cons_zero, List.set_cons_succ])
             | (have t := ‹Tok 7›
                clear tk t
                replace SX := Lib.hid (SX.out.box [.int .i64 r] 3)
                go_simp
                generalize wc.heap.size = gb at *
                generalize (wc.alloc (.cells #[.int .i64 r] 3)) = wc at *
                refine hK.out _ _ trivial (fun hHeld => ?_)
                clear hK K
                try simp only [Act.put, List.setIfInBounds_toArray, List.set_cons_zero, List.set_cons_succ])
             | (have t := ‹Tok 8›
                clear tk t
                refine step_append_flat tInt_law flat_int info_T_int Tryd.underlying24 rfl rfl (.tmp 34) (.tmp 40) rfl F4 (fun b => F4 b ∨ b = _) _ _ x4 [r] rfl rfl (SX.out.gS 4 rfl) (slR_num (SX.out.gB 0 rfl)) (fun _ h => Or.inl h) (Or.inr rfl) (by have := HL.out; simp; omega) ?_
                intro u' wn oN tN
                obtain ⟨F4, sp⟩ := SX.out.appS 4 rfl oN tN (fun b h => h.imp_right (fun q => by rw [q]; first | exact Nat.le_refl _ | simp))
                obtain ⟨b4, d4, hu⟩ := slO_len oN
                replace SX := Lib.hid sp
                clear sp oN tN
                have hl : (x4 ++ [r]).length = x4.length + 1 := by simp
                generalize x4 ++ [r] = y4 at *
                have HY4 := Lib.hid hl
                clear hl
                subst hu
                rename World => wc
                refine hK.out _ _ trivial (fun hHeld => ?_)
                clear hK K
                try simp only [Act.put, List.setIfInBounds_toArray, List.set_cons_zero, List.set_cons_succ])
             | (have t := ‹Tok 10›
                clear tk t
                have lc := SX.out.cell 1 rfl 4 rfl
                have fz := SX.out.froz 1 rfl 4
                go_simp
                clear lc fz
                have e := setCell_box (SX.out.gB 1 rfl) 4 (.slice b4 y4.length d4)
                simp only [List.setIfInBounds_toArray, List.set_cons_zero, List.set_cons_succ] at e
                rw [e]
                clear e
                replace SX := Lib.hid (SX.out.store 1 rfl [.int .i64 sg, .int .i64 ba, .slice b2 y2.length d2, .slice b3 y3.length d3, .slice b4 y4.length d4])
                generalize (wc.setRow X #[.int .i64 sg, .int .i64 ba, .slice b2 y2.length d2, .slice b3 y3.length d3, .slice b4 y4.length d4]) = wc at *
                replace SX := Lib.hid (SX.out.sub [1, 2, 3, 4, 5] (by decide))
                refine hK.out _ _ trivial (fun hHeld => ?_)
                clear hK K
                try simp only [Act.put, List.setIfInBounds_toArray, List.set_cons_zero, List.set_cons_succ])
             | (refine uQ 5 ?_; try simp only [Act.put, List.setIfInBounds_toArray, List.set_cons_zero, List.set_cons_succ])
             | (refine uQ 9 ?_; try simp only [Act.put, List.setIfInBounds_toArray, List.set_cons_zero, List.set_cons_succ])
             | (refine u2 1 4 ?_ ?_ <;> intro K hK tk)
             | (refine u2 1 6 ?_ ?_ <;> intro K hK tk)
             | (refine u2 1 7 ?_ ?_ <;> intro K hK tk)
             | (refine u1 1 ?_ <;> intro K hK tk)
             | (refine u1 8 ?_ <;> intro K hK tk)
             | (refine u1 10 ?_ <;> intro K hK tk)
             | (refine u1 7 ?_ <;> intro K hK tk)
             | (refine u1 6 ?_ <;> intro K hK tk)
             | (refine u1 4 ?_ <;> intro K hK tk)
             | (refine uZ ?_
                clear hHeld
                go_wp2_with fail
                refine (below_any W0 c v xs _ SX.out.cur (2) (by omega) (by omega)).mono ?_
                rintro e wn ⟨z, z0, z1, rfl, hC, hg⟩
                replace SX := Lib.hid (SX.out.draw hC hg)
                clear hC hg
                rename World => wc
                go_wp2
                go_roundw
                case rel => exact ⟨id + 1 + z, m - 1, _, _, _, _, _, _, y2, y3, y4, rfl, rfl, by omega, by omega, by omega, by omega, Lib.hid (by have h1 := HL.out; have h2 := HY2.out; have h3 := HY3.out; have h4 := HY4.out; exact ⟨⟨by omega, by omega⟩, by omega, by omega⟩), SX⟩
                case measure => simp [intOf]; omega))
    · obtain rfl : m = 0 := by omega
      have h1 := HL.out
      have hx2 : x2.length ≤ 4 := by omega
      have hx3 : x3.length ≤ 4 := by omega
      have hx4 : x4.length ≤ 4 := by omega
      have hp3 : 1 ≤ x3.length := by omega
      have hp4 : 1 ≤ x4.length := by omega
      clear HL h1
      have HX2 := Lib.hid hx2; have HX3 := Lib.hid hx3; have HX4 := Lib.hid hx4
      have HP3 := Lib.hid hp3; have HP4 := Lib.hid hp4
      clear hx2 hx3 hx4 hp3 hp4
      go_wp2_with fail
      refine (below_any W0 c v xs _ SX.out.cur (14) (by omega) (by omega)).mono ?_
      rintro e wn ⟨z, z0, z1, rfl, hC, hg⟩
      replace SX := Lib.hid (SX.out.draw hC hg)
      clear hC hg
      rename World => wc
      by_cases z0' : z = 0
      · subst z0'
        clear z0 z1
        replace SX := Lib.hid (SX.out.box (([-1, 0, 4, 5] : List Int).map (Value.int .i64)) 3)
        have HP := Lib.hid (pick_any W0 c v xs _ SX.out.cur wc.heap.size [-1, 0, 4, 5] (-1) 5 (by decide) (by decide) (by decide) (SX.out.gB 0 rfl) (by have := SX.out.lo _ (List.mem_cons_self) wc.heap.size rfl; have := SX.out.d.lt; omega))
        go_wp2_with fail
        refine HP.out.mono ?_
        rintro e wn ⟨nb, nb0, nb1, rfl, hC, hg⟩
        replace SX := Lib.hid (SX.out.draw hC hg)
        clear hC hg HP
        rename World => wc
        have lc := SX.out.cell 1 rfl 1 rfl
        have fz := SX.out.froz 1 rfl 1
        go_upto_region 17 with fail
        clear lc fz
        have e := setCell_box (SX.out.gB 1 rfl) 1 (.int .i64 nb)
        simp only [List.setIfInBounds_toArray, List.set_cons_zero, List.set_cons_succ] at e
        rw [e]
        clear e
        replace SX := Lib.hid (SX.out.store 1 rfl [.int .i64 sg, .int .i64 nb, .slice a2 x2.length c2, .slice a3 x3.length c3, .slice a4 x4.length c4])
        generalize (wc.setRow X #[.int .i64 sg, .int .i64 nb, .slice a2 x2.length c2, .slice a3 x3.length c3, .slice a4 x4.length c4]) = wc at *
        have lc := cell5 (SX.out.gB 1 rfl)
        have lf := cell5 (SX.out.gB 5 rfl)
        have fz := froz5 (SX.out.gB 5 rfl)
        go_wp2
        clear lc lf fz
        rw [cells5 (SX.out.gB 5 rfl)]
        replace SX := Lib.hid (SX.out.store 5 rfl [.int .i64 sg, .int .i64 nb, .slice a2 x2.length c2, .slice a3 x3.length c3, .slice a4 x4.length c4])
        have lr := cell5 (SX.out.gB 5 rfl)
        refine bodyPost_ret (v := .agg #[.int .i64 sg, .int .i64 nb, .slice a2 x2.length c2, .slice a3 x3.length c3, .slice a4 x4.length c4]) ?_ rfl ?_
        · simp [results, Tryd.f26, go_sem, lr]
        · exact ⟨[.int .i64 sg, .int .i64 nb, .slice a2 x2.length c2, .slice a3 x3.length c3, .slice a4 x4.length c4], (sg, nb, x2, x3, x4), _, rfl, SX.out, fun u hu => chg_read 2 3 4 hu rfl rfl rfl, (by rw [tCharge_sz, zL_ints, zL_ints, zL_ints]; have := HX2.out; have := HX3.out; have := HX4.out; omega)⟩
      · by_cases z1' : z = 1
        · subst z1'
          clear z0 z1 z0'
          obtain ⟨y, ys, hy⟩ : ∃ y ys, x4 = y :: ys := List.exists_cons_of_length_pos HP4.out
          subst hy
          rcases slO_form (SX.out.gS 3 rfl) with ⟨_, h⟩ | ⟨g, cap, hv, _, _⟩
          · cases h
          simp only [Value.slice.injEq] at hv
          obtain ⟨rfl, _, rfl⟩ := hv
          obtain ⟨n4, hn4⟩ : ∃ n4, n4 = (y :: ys).length := ⟨_, rfl⟩
          have hq : n4 = ys.length + 1 := by rw [hn4]; rfl
          have hcp : 1 ≤ c4 := by have := (slR_caps (SX.out.rS 3 rfl)); simp at this; omega
          have HL4 := Lib.hid (show (y :: ys).length = ys.length + 1 from rfl)
          by_cases hc1 : c4 = 1
          · subst hc1
            have hy0 : ys = [] := by
              have := (slR_caps (SX.out.rS 3 rfl))
              exact List.eq_nil_of_length_eq_zero (by simpa using this)
            have HY0 := Lib.hid hy0
            clear hy0
            have lc := SX.out.cell 0 rfl 4 rfl
            have fz := SX.out.froz 0 rfl 4
            go_upto_region 17 with fail
            clear lc fz
            have e := setCell_box (SX.out.gB 0 rfl) 4 (.slice (some ⟨g, 0, none⟩) ys.length 0)
            simp only [List.setIfInBounds_toArray, List.set_cons_zero, List.set_cons_succ] at e
            rw [e]
            clear e
            replace SX := Lib.hid (SX.out.store 0 rfl [.int .i64 sg, .int .i64 ba, .slice a2 x2.length c2, .slice a3 x3.length c3, .slice (some ⟨g, 0, none⟩) ys.length 0])
            generalize (wc.setRow X #[.int .i64 sg, .int .i64 ba, .slice a2 x2.length c2, .slice a3 x3.length c3, .slice (some ⟨g, 0, none⟩) ys.length 0]) = wc at *
            have lc := cell5 (SX.out.gB 0 rfl)
            have lf := cell5 (SX.out.gB 4 rfl)
            have fz := froz5 (SX.out.gB 4 rfl)
            go_wp2
            clear lc lf fz
            rw [cells5 (SX.out.gB 4 rfl)]
            replace SX := Lib.hid (SX.out.store 4 rfl [.int .i64 sg, .int .i64 ba, .slice a2 x2.length c2, .slice a3 x3.length c3, .slice (some ⟨g, 0, none⟩) ys.length 0])
            have lr := cell5 (SX.out.gB 4 rfl)
            refine bodyPost_ret (v := .agg #[.int .i64 sg, .int .i64 ba, .slice a2 x2.length c2, .slice a3 x3.length c3, .slice (some ⟨g, 0, none⟩) ys.length 0]) ?_ rfl ?_
            · simp [results, Tryd.f26, go_sem, lr]
            · exact ⟨[.int .i64 sg, .int .i64 ba, .slice a2 x2.length c2, .slice a3 x3.length c3, .slice (some ⟨g, 0, none⟩) ys.length 0], (sg, ba, x2, x3, ys), _, rfl, SX.out, fun u hu => tCharge_mkR (slO_reads tInt_law (hu.get 1 rfl)) (slO_reads tInt_law (hu.get 2 rfl)) (by obtain rfl := HY0.out; exact Or.inl ⟨rfl, _, _, rfl⟩), (by rw [tCharge_sz, zL_ints, zL_ints, zL_ints]; have := HX2.out; have := HX3.out; have := HX4.out; have h4 := HX4.out; rw [List.length_cons] at h4; omega)⟩
          · have lc := SX.out.cell 0 rfl 4 rfl
            have fz := SX.out.froz 0 rfl 4
            go_upto_region 17 with fail
            clear lc fz
            have e := setCell_box (SX.out.gB 0 rfl) 4 (.slice (some ⟨g, 1, none⟩) ys.length (c4 - 1))
            simp only [List.setIfInBounds_toArray, List.set_cons_zero, List.set_cons_succ] at e
            rw [e]
            clear e
            replace SX := Lib.hid (SX.out.store 0 rfl [.int .i64 sg, .int .i64 ba, .slice a2 x2.length c2, .slice a3 x3.length c3, .slice (some ⟨g, 1, none⟩) ys.length (c4 - 1)])
            generalize (wc.setRow X #[.int .i64 sg, .int .i64 ba, .slice a2 x2.length c2, .slice a3 x3.length c3, .slice (some ⟨g, 1, none⟩) ys.length (c4 - 1)]) = wc at *
            have lc := cell5 (SX.out.gB 0 rfl)
            have lf := cell5 (SX.out.gB 4 rfl)
            have fz := froz5 (SX.out.gB 4 rfl)
            go_wp2
            clear lc lf fz
            rw [cells5 (SX.out.gB 4 rfl)]
            replace SX := Lib.hid (SX.out.store 4 rfl [.int .i64 sg, .int .i64 ba, .slice a2 x2.length c2, .slice a3 x3.length c3, .slice (some ⟨g, 1, none⟩) ys.length (c4 - 1)])
            have lr := cell5 (SX.out.gB 4 rfl)
            refine bodyPost_ret (v := .agg #[.int .i64 sg, .int .i64 ba, .slice a2 x2.length c2, .slice a3 x3.length c3, .slice (some ⟨g, 1, none⟩) ys.length (c4 - 1)]) ?_ rfl ?_
            · simp [results, Tryd.f26, go_sem, lr]
            · exact ⟨[.int .i64 sg, .int .i64 ba, .slice a2 x2.length c2, .slice a3 x3.length c3, .slice (some ⟨g, 1, none⟩) ys.length (c4 - 1)], (sg, ba, x2, x3, ys), _, rfl, SX.out, fun u hu => tCharge_mkR (slO_reads tInt_law (hu.get 1 rfl)) (slO_reads tInt_law (hu.get 2 rfl)) (slR_tl (slO_reads tInt_law (hu.get 3 rfl))), (by rw [tCharge_sz, zL_ints, zL_ints, zL_ints]; have := HX2.out; have := HX3.out; have := HX4.out; have h4 := HX4.out; rw [List.length_cons] at h4; omega)⟩
        · have g0 : (z == 0) = false := by simp [z0']
          have g1 : (z == 1) = false := by simp [z1']
          by_cases z2' : z = 2
          · subst z2'
            clear z0 z1 z0' z1'
            rcases slO_form (SX.out.gS 2 rfl) with ⟨_, h⟩ | ⟨g, cap, hv, hF3, _⟩
            · have := HP3.out; rw [h] at this; cases this
            simp only [Value.slice.injEq] at hv
            obtain ⟨rfl, _, rfl⟩ := hv
            have HF3 := Lib.hid hF3
            clear hF3
            have hp : 0 < x3.length := HP3.out
            go_wp2
            refine wp_region_held_drew (S := fun _ => True) (by kernel_rfl) trivial (fun hHeld => ?_)
            replace SX := Lib.hid SX.out.drew
            generalize wc.drew = wc at *
            refine uQ 0 ?_
            try simp only [Act.put, List.setIfInBounds_toArray, List.set_cons_zero, List.set_cons_succ]
            refine uQ 2 ?_
            try simp only [Act.put, List.setIfInBounds_toArray, List.set_cons_zero, List.set_cons_succ]
            repeat' first
              | (have t := ‹Tok 1›
                 clear tk t
                 have lc := (show wc.heap[X]? = some (.cells #[.int .i64 sg, .int .i64 ba, .slice a2 x2.length c2, .slice (some ⟨g, 0, none⟩) x3.length c3, .slice a4 x4.length c4] 26 (0, 0)) by first | exact SX.out.gB 0 rfl | exact SX.out.gB 1 rfl)
                 have lc5 := cell5 lc
                 clear lc
                 go_simp
                 clear lc5
                 refine hK.out _ _ trivial (fun hHeld => ?_)
                 clear hK K
                 try simp only [Act.put, List.setIfInBounds_toArray, List.set_cons_zero, List.set_cons_succ])
              | (have t := ‹Tok 3›
                 clear tk t
                 replace SX := Lib.hid (SX.out.box [.int .i64 (-1), .int .i64 3, .int .i64 4] 3)
                 go_simp
                 generalize wc.heap.size = gb at *
                 generalize (wc.alloc (.cells #[.int .i64 (-1), .int .i64 3, .int .i64 4] 3)) = wc at *
                 refine hK.out _ _ trivial (fun hHeld => ?_)
                 clear hK K
                 try simp only [Act.put, List.setIfInBounds_toArray, List.set_cons_zero, List.set_cons_succ])
              | (have t := ‹Tok 4›
                 clear tk t
                 go_simp
                 refine (pick_any W0 c v xs _ SX.out.cur gb [-1, 3, 4] (-1) 4 (by decide) (by decide) (by decide) (SX.out.gB 0 rfl) (by have := SX.out.lo _ (List.mem_cons_self) gb rfl; have := SX.out.d.lt; omega)).mono ?_
                 rintro e wn ⟨nt, nt0, nt1, rfl, hC, hg⟩
                 replace SX := Lib.hid (SX.out.draw hC hg)
                 clear hC hg
                 rename World => wc
                 refine hK.out _ _ trivial (fun hHeld => ?_)
                 clear hK K
                 try simp only [Act.put, List.setIfInBounds_toArray, List.set_cons_zero, List.set_cons_succ])
              | (have t := ‹Tok 6›
                 clear tk t
                 obtain ⟨oN, oF⟩ := slO_own (SX.out.gS 3 rfl)
                 have lc := ownsN_cell oN (show x3[0]? = some (x3[0]'HP3.out) by simp)
                 have fz := ownsN_frozen oN 0
                 go_simp
                 clear lc fz
                 have o2 := own_slO (ownsN_store oN 0 nt) oF
                 replace SX := Lib.hid (SX.out.set 3 rfl (iS 3 tInt_law F3 (.slice (some ⟨g, 0, none⟩) x3.length c3) (x3.set 0 nt)) (fun _ h => h) (turn_set HF3.out) o2)
                 clear oN oF o2
                 generalize (wc.setCell ⟨g, 0, none⟩ (.int .i64 nt)) = wc at *
                 refine hK.out _ _ trivial (fun hHeld => ?_)
                 clear hK K
                 try simp only [Act.put, List.setIfInBounds_toArray, List.set_cons_zero, List.set_cons_succ])
              | (refine uQ 5 ?_; try simp only [Act.put, List.setIfInBounds_toArray, List.set_cons_zero, List.set_cons_succ])
              | (refine u2 1 3 ?_ ?_ <;> intro K hK tk)
              | (refine u2 1 4 ?_ ?_ <;> intro K hK tk)
              | (refine u1 1 ?_ <;> intro K hK tk)
              | (refine u1 6 ?_ <;> intro K hK tk)
              | (refine u1 4 ?_ <;> intro K hK tk)
              | (refine u1 3 ?_ <;> intro K hK tk)
              | (refine uZ ?_
                 clear hHeld
                 have lc := cell5 (SX.out.gB 1 rfl)
                 have lf := cell5 (SX.out.gB 5 rfl)
                 have fz := froz5 (SX.out.gB 5 rfl)
                 go_wp2
                 clear lc lf fz
                 rw [cells5 (SX.out.gB 5 rfl)]
                 replace SX := Lib.hid (SX.out.store 5 rfl [.int .i64 sg, .int .i64 ba, .slice a2 x2.length c2, .slice (some ⟨g, 0, none⟩) x3.length c3, .slice a4 x4.length c4])
                 have lr := cell5 (SX.out.gB 5 rfl)
                 refine bodyPost_ret (v := .agg #[.int .i64 sg, .int .i64 ba, .slice a2 x2.length c2, .slice (some ⟨g, 0, none⟩) x3.length c3, .slice a4 x4.length c4]) ?_ rfl ?_
                 · simp [results, Tryd.f26, go_sem, lr]
                 · exact ⟨[.int .i64 sg, .int .i64 ba, .slice a2 x2.length c2, .slice (some ⟨g, 0, none⟩) x3.length c3, .slice a4 x4.length c4], (sg, ba, x2, x3.set 0 nt, x4), _, rfl, SX.out, fun u hu => chg_read 2 3 4 hu rfl rfl rfl, (by rw [tCharge_sz, zL_ints, zL_ints, zL_ints]; have := HX2.out; have := HX3.out; have := HX4.out; rw [List.length_set]; omega)⟩)
          · have g2 : (z == 2) = false := by simp [z2']
            clear z0' z1' z2'
            have lc := cell5 (SX.out.gB 0 rfl)
            have lf := cell5 (SX.out.gB 4 rfl)
            have fz := froz5 (SX.out.gB 4 rfl)
            go_wp2
            clear lc lf fz
            rw [cells5 (SX.out.gB 4 rfl)]
            replace SX := Lib.hid (SX.out.store 4 rfl [.int .i64 sg, .int .i64 ba, .slice a2 x2.length c2, .slice a3 x3.length c3, .slice a4 x4.length c4])
            have lr := cell5 (SX.out.gB 4 rfl)
            refine bodyPost_ret (v := .agg #[.int .i64 sg, .int .i64 ba, .slice a2 x2.length c2, .slice a3 x3.length c3, .slice a4 x4.length c4]) ?_ rfl ?_
            · simp [results, Tryd.f26, go_sem, lr]
            · exact ⟨[.int .i64 sg, .int .i64 ba, .slice a2 x2.length c2, .slice a3 x3.length c3, .slice a4 x4.length c4], (sg, ba, x2, x3, x4), _, rfl, SX.out, fun u hu => chg_read 1 2 3 hu rfl rfl rfl, (by rw [tCharge_sz, zL_ints, zL_ints, zL_ints]; have := HX2.out; have := HX3.out; have := HX4.out; omega)⟩
end Go.Proofs.YtjeaimdnddelpaaDoor
namespace Go.Proofs.YtjeaimdnddelpaaDoor
open Go.RowKit
set_option linter.unusedVariables false
set_option linter.unusedSimpArgs false
theorem info_raw5 : ElemInfo (tRaw 5) 26 (.agg #[.int .i64 0, .int .i64 0, .slice none 0 0, .slice none 0 0, .slice none 0 0]) := elemInfo_of (by kernel_rfl)
theorem tCharge_one : tCharge.One := tPair_one tInt_one (tPair_one tInt_one (tPair_one (tSl_one _ _) (tPair_one (tSl_one _ _) (tSl_one _ _))))
/-- One element's cells in a block of their own, as a slice. -/
theorem slR_raw1 {n : Nat} {w : World} {b : Nat} {t : TypeId} {f : Nat × Nat} {cs : List Value} (h : w.heap[b]? = some (.cells cs.toArray t f)) (hl : cs.length = n) (h1 : ∀ u ∈ cs, u.oneCell' = true) : SlR (tRaw n) w (.slice (some ⟨b, 0, none⟩) 1 1) [cs] :=
  Or.inr ⟨b, 0, 1, fun _ => cs, rfl, Nat.le_refl _, (Array.getElem?_eq_some_iff.1 h).1, fun j hj => by
    obtain rfl : j = 0 := by simpa using hj
    refine ⟨fun i hi => ?_, rfl, hl, h1⟩
    show w.cell? ⟨b, 0 + 0 * n + i, none⟩ = _
    rw [Nat.zero_mul, Nat.zero_add]
    simp [World.cell?, h]⟩
/-- A list of charges is drawn. -/
def DrawnChgs (W0 : World) (c : Nat) (v : Value) (xs : List Int) (w : World) (e : Ending) (w' : World) : Prop :=
  ∃ (u : Value) (ys : List ChargeD) (l : List Item), e = .returned u ∧ SD W0 c v xs w l w' ∧ (∀ x, Sep l x → SlR tCharge x u ys) ∧ zL tCharge ys ≤ 100
theorem zL_app {α : Type} (T : Ty α) (xs ys : List α) : zL T (xs ++ ys) = zL T xs + zL T ys := by
  unfold zL zTo sumN
  rw [List.take_length, List.take_length, List.take_length, List.length_append, List.map_append, List.sum_append]; omega
theorem zL_sing {α : Type} (T : Ty α) (x : α) : zL T [x] = 1 + T.sz x := by
  unfold zL zTo sumN; simp
theorem Sep.left : ∀ {is l : List Item} {w : World}, Sep (is ++ l) w → Sep is w
  | [], _, _, _ => trivial
  | i :: is, l, w, h => ⟨h.1, fun b hb => ⟨(h.2.1 b hb).1, fun j hj => (h.2.1 b hb).2 j (List.mem_append_left _ hj)⟩, Sep.left (is := is) h.2.2⟩
theorem sd_drop {W0 w0 w : World} {c : Nat} {v : Value} {xs : List Int} {a i i' : Item} {l : List Item} (h : SD W0 c v xs w0 ((a :: i :: l).set 1 i') w) : SD W0 c v xs w0 (i' :: l) w :=
  ⟨h.d, h.s.2.2, fun j hj b hb => h.lo j (List.mem_cons_of_mem _ hj) b hb⟩
/-- The list that has grown comes first again. -/
theorem sd_pick {W0 w0 w : World} {c : Nat} {v : Value} {xs : List Int} {a i' : Item} {i : Item} (k l : List Item) (h : SD W0 c v xs w0 ((a :: (k ++ i :: l)).set (k.length + 1) i') w) : SD W0 c v xs w0 (i' :: (k ++ l)) w := by
  have e : (a :: (k ++ i :: l)).set (k.length + 1) i' = a :: (k ++ i' :: l) := by simp [List.set_append]
  rw [e] at h
  have hk : Sep (k ++ i' :: l) w := h.s.2.2
  have hi : Sep (i' :: l) w := hk.right
  refine ⟨h.d, ⟨hi.1, fun b hb => ⟨(hi.2.1 b hb).1, fun j hj => ?_⟩, (Sep.left hk).append hi.2.2 (fun j hj b hb m hm => Sep.cross hk j hj b hb m (List.mem_cons_of_mem _ hm))⟩, fun j hj b hb => ?_⟩
  · rcases List.mem_append.1 hj with q | q
    · exact fun r => Sep.cross hk j q b r i' List.mem_cons_self hb
    · exact (hi.2.1 b hb).2 j q
  · refine h.lo j ?_ b hb
    rcases List.mem_cons.1 hj with rfl | q
    · exact List.mem_cons_of_mem _ (List.mem_append_right _ List.mem_cons_self)
    · rcases List.mem_append.1 q with r | r
      · exact List.mem_cons_of_mem _ (List.mem_append_left _ r)
      · exact List.mem_cons_of_mem _ (List.mem_append_right _ (List.mem_cons_of_mem _ r))
set_option maxHeartbeats 16000000 in
set_option maxRecDepth 100000 in
theorem ledger_any (W0 : World) (c : Nat) (v : Value) (xs : List Int) (w : World) (hC : Cur W0 c v xs w) :
    Calls Tryd.prog 38 #[.pointer (some ⟨c, 0, none⟩)] w (DrawnChgs W0 c v xs w) := by
  have SX := Lib.hid ((SD.start hC).empty (tRaw_law (n := 5) (by decide)) 26)
  clear hC
  go_enter Tryd.func38, Tryd.ntmps38
  go_wp2_with fail
  generalize (w.alloc (.cells #[] 26)) = wc at *
  refine (below_any W0 c v xs _ SX.out.cur (6) (by omega) (by omega)).mono ?_
  rintro e wn ⟨n, n0, n1, rfl, hC, hg⟩
  replace SX := Lib.hid (SX.out.draw hC hg)
  clear hC hg
  rename World => wc
  go_wp2
  go_loopw [3, 4] (fun lv nv wr => ∃ (m : Int) (F : Nat → Prop) (M : List (List Value)) (ys : List ChargeD) (l : List Item), nv = .int .i64 m ∧ 0 ≤ m ∧ m ≤ 5 ∧ Hid ((M.length : Int) + m ≤ 5 ∧ (zL tCharge ys : Int) ≤ 17 * (5 - m)) ∧ Hid (SD W0 c v xs w (iS 26 (tRaw_law (n := 5) (by decide)) F lv M :: l) wr) ∧ Hid (∀ x, Sep l x → Sh tCharge x M ys)) (fun _ nv _ => (intOf nv).toNat)
  case atStart => exact ⟨n, _, [], [], [], rfl, by omega, by omega, Lib.hid ⟨by simp; omega, by simp [zL, zTo, sumN]; omega⟩, SX, Lib.hid (fun x _ => sh_nil x)⟩
  case round =>
    clear SX
    obtain ⟨m, F, M, ys, l, rfl, m0, m1, HL, SX, HS⟩ := hrel
    generalize wr = wc at *
    by_cases hm : 0 < m
    · go_wp2_with fail
      refine (charge_any W0 c v xs _ SX.out.cur).mono ?_
      rintro e wn ⟨cs, x, k, rfl, sk, rk, zk⟩
      have SJ := Lib.hid (SX.out.join sk)
      have RK := Lib.hid rk; have ZK := Lib.hid zk
      have hR := rk _ sk.s
      have hlen := tCharge_law.len hR
      have hone := tCharge_one hR
      obtain ⟨y0, y1, y2, y3, y4, rfl⟩ := len5 hlen
      clear hlen hR rk zk SX sk
      have H1 := Lib.hid hone
      clear hone
      have SA := Lib.hid (SJ.out.box [y0, y1, y2, y3, y4] 26)
      have QI : Hid ((iB wn.heap.size [y0, y1, y2, y3, y4] 26 :: (k ++ iS 26 (tRaw_law (n := 5) (by decide)) F u3 M :: l))[k.length + 1]? = some (iS 26 (tRaw_law (n := 5) (by decide)) F u3 M)) := Lib.hid (by simp)
      go_wp2_with (at_builtin; refine append_flat (tRaw_law (n := 5) (by decide)) (flat_raw 5) info_raw5 Tryd.underlying33 rfl rfl (.tmp 12) (.tmp 15) rfl F (fun b => F b ∨ b = _) _ _ M [[y0, y1, y2, y3, y4]] rfl rfl (SA.out.gS _ QI.out) (slR_raw1 (SA.out.gB 0 rfl) rfl H1.out) (fun _ h => Or.inl h) (Or.inr rfl) (by have := HL.out; simp; omega) ?_)
      intro u' wq oN tN
      obtain ⟨F2, sp⟩ := SA.out.appS _ QI.out oN tN (fun b h => h.imp_right (fun q => by rw [q]; first | exact Nat.le_refl _ | simp))
      have SQ : Hid (SD W0 c v xs w (iS 26 (tRaw_law (n := 5) (by decide)) F2 u' (M ++ [[y0, y1, y2, y3, y4]]) :: (k ++ l)) wq) := Lib.hid (sd_pick k l sp)
      have HS2 : Hid (∀ q, Sep (k ++ l) q → Sh tCharge q (M ++ [[y0, y1, y2, y3, y4]]) (ys ++ [x])) := Lib.hid (fun q hq => sh_app (HS.out q hq.right) (sh_one (RK.out q (Sep.left hq))))
      have HZ : Hid (((M ++ [[y0, y1, y2, y3, y4]]).length : Int) + (m - 1) ≤ 5 ∧ (zL tCharge (ys ++ [x]) : Int) ≤ 17 * (5 - (m - 1))) := Lib.hid (by have h1 := HL.out; have h2 := ZK.out; rw [zL_app, zL_sing]; simp only [List.length_append, List.length_cons, List.length_nil]; exact ⟨by omega, by omega⟩)
      clear sp oN tN SA SJ QI HS RK ZK HL
      generalize M ++ [[y0, y1, y2, y3, y4]] = M2 at *
      generalize ys ++ [x] = ys2 at *
      go_wp2
      go_roundw
      case rel => exact ⟨m - 1, F2, M2, ys2, k ++ l, rfl, by omega, by omega, HZ, SQ, HS2⟩
      case measure => simp [intOf]; omega
    · obtain rfl : m = 0 := by omega
      have HZ := HL.out.2
      have HL2 : Hid (zL tCharge ys ≤ 100) := Lib.hid (by omega)
      clear HZ HL
      go_wp2
      go_ret
      exact ⟨u3, ys, _, rfl, SX.out, fun x hx => raw_reads (T := tCharge) (by decide) (hx.get 0 rfl) (HS.out x hx.2.2), HL2.out⟩
/-- What the laws draw: a charge; a list of charges and numbers; a list of charges and a number. -/
def GotChg (w : World) (e : Ending) (w' : World) : Prop := ∃ (cs : List Value) (x : ChargeD), e = .returned (.agg cs.toArray) ∧ tCharge.R w' cs x ∧ tCharge.sz x ≤ 16 ∧ Below w.heap.size w w'
def GotCo (w : World) (e : Ending) (w' : World) : Prop := ∃ (u t : Value) (ys : List ChargeD) (ts : List Int), e = .returned (.tuple #[u, t]) ∧ SlR tCharge w' u ys ∧ zL tCharge ys ≤ 100 ∧ SlR tInt w' t ts ∧ ts.length ≤ 3 ∧ Below w.heap.size w w'
def GotTen (w : World) (e : Ending) (w' : World) : Prop := ∃ (u : Value) (k : Int) (ys : List ChargeD), e = .returned (.tuple #[u, .int .i64 k]) ∧ SlR tCharge w' u ys ∧ zL tCharge ys ≤ 100 ∧ -1 ≤ k ∧ k ≤ 4 ∧ Below w.heap.size w w'
set_option maxHeartbeats 16000000 in
set_option maxRecDepth 100000 in
theorem drawShares (v : Value) (xs : List Int) (w : World) (hcode : Code w v xs) (hsm : xs.length ≤ 1048576) (hby : ∀ x ∈ xs, 0 ≤ x ∧ x ≤ 255) :
    Calls Tryd.prog 5 #[v] w (GotChg w) := by
  have SR := Lib.hid ((St.init w).box [.int .i64 0, .int .i64 0, .slice none 0 0, .slice none 0 0, .slice none 0 0] 26)
  have HW : Hid (w.heap.size < (w.alloc (.cells #[.int .i64 0, .int .i64 0, .slice none 0 0, .slice none 0 0, .slice none 0 0] 26)).heap.size) := Lib.hid (by simp [World.size_alloc])
  have HN := Lib.hid (new_any v xs _ (code_below hcode SR.out.d) hsm hby)
  clear hcode hby
  go_enter Tryd.func5, Tryd.ntmps5
  go_wp2_with fail
  refine HN.out.mono ?_
  rintro e w1 ⟨rfl, hC⟩
  clear HN
  generalize (w.alloc (.cells #[.int .i64 0, .int .i64 0, .slice none 0 0, .slice none 0 0, .slice none 0 0] 26)) = wa at *
  have HC := Lib.hid (charge_any wa _ v xs w1 hC)
  have H1 := Lib.hid hC.old.size
  clear hC
  go_wp2_with fail
  refine HC.out.mono ?_
  rintro e w2 ⟨cs, x, l, rfl, sk, rk, zk⟩
  replace SR := Lib.hid (SR.out.below sk.cur.old)
  have LO := Lib.hid sk.lo
  have RK := Lib.hid rk
  have ZK := Lib.hid zk
  have SK := Lib.hid sk.s
  have hR := rk _ sk.s
  obtain ⟨y0, y1, y2, y3, y4, rfl⟩ := len5 (tCharge_law.len hR)
  have st := rst5 (P := Tryd.prog) (SR.out.gB 0 rfl) (tCharge_one hR)
  clear hR rk zk sk HC
  go_wp2
  clear st
  have S2 := SR.out.store 0 rfl [y0, y1, y2, y3, y4]
  have lr := cell5 (S2.gB 0 rfl)
  refine bodyPost_ret (v := .agg #[y0, y1, y2, y3, y4]) ?_ rfl ?_
  · simp [results, Tryd.f5, go_sem, lr]
  · exact ⟨[y0, y1, y2, y3, y4], x, rfl, RK.out _ (SK.out.turn turn_row (fun i hi b hb q => by have h1 := LO.out i hi b hb; have h2 := HW.out; have h3 := H1.out; have h4 : b = w.heap.size := q; omega)), ZK.out, S2.d⟩
set_option maxHeartbeats 16000000 in
set_option maxRecDepth 100000 in
theorem drawTenant (v : Value) (xs : List Int) (w : World) (hcode : Code w v xs) (hsm : xs.length ≤ 1048576) (hby : ∀ x ∈ xs, 0 ≤ x ∧ x ≤ 255) :
    Calls Tryd.prog 19 #[v] w (GotTen w) := by
  have HN := Lib.hid (new_any v xs w hcode hsm hby)
  clear hcode hby
  go_enter Tryd.func19, Tryd.ntmps19
  go_wp2_with fail
  refine HN.out.mono ?_
  rintro e w1 ⟨rfl, hC⟩
  clear HN
  have HC := Lib.hid (ledger_any w _ v xs w1 hC)
  clear hC
  go_wp2_with fail
  refine HC.out.mono ?_
  rintro e wc ⟨u, ys, l, rfl, sk, rk, zk⟩
  have SX := Lib.hid sk
  have RK := Lib.hid rk
  have ZK := Lib.hid zk
  clear sk rk zk HC
  go_wp2_with fail
  refine (below_any w _ v xs _ SX.out.cur (6) (by omega) (by omega)).mono ?_
  rintro e wn ⟨k, k0, k1, rfl, hC, hg⟩
  replace SX := Lib.hid (SX.out.draw hC hg)
  clear hC hg
  rename World => wc
  go_wp2
  first | (go_ret2; exact ⟨u, k - 1, ys, rfl, RK.out _ SX.out.s, ZK.out, by omega, by omega, SX.out.cur.old⟩) | (go_ret; exact ⟨u, k - 1, ys, rfl, RK.out _ SX.out.s, ZK.out, by omega, by omega, SX.out.cur.old⟩)
set_option maxHeartbeats 16000000 in
set_option maxRecDepth 100000 in
theorem drawCoal (v : Value) (xs : List Int) (w : World) (hcode : Code w v xs) (hsm : xs.length ≤ 1048576) (hby : ∀ x ∈ xs, 0 ≤ x ∧ x ≤ 255) :
    Calls Tryd.prog 15 #[v] w (GotCo w) := by
  have HN := Lib.hid (new_any v xs w hcode hsm hby)
  clear hcode hby
  go_enter Tryd.func15, Tryd.ntmps15
  go_wp2_with fail
  refine HN.out.mono ?_
  rintro e w1 ⟨rfl, hC⟩
  clear HN
  have HC := Lib.hid (ledger_any w _ v xs w1 hC)
  clear hC
  go_wp2_with fail
  refine HC.out.mono ?_
  rintro e wc ⟨u, ys, l, rfl, sk, rk, zk⟩
  have SX := Lib.hid sk
  have RK := Lib.hid rk
  have ZK := Lib.hid zk
  clear sk rk zk HC
  have SE := Lib.hid (SX.out.empty tInt_law 3)
  clear SX
  go_wp2_with fail
  generalize (wc.alloc (.cells #[] 3)) = wd at *
  have SX := SE
  clear SE
  refine (below_any w _ v xs _ SX.out.cur (4) (by omega) (by omega)).mono ?_
  rintro e wn ⟨n, n0, n1, rfl, hC, hg⟩
  replace SX := Lib.hid (SX.out.draw hC hg)
  clear hC hg
  rename World => wc
  go_wp2
  go_loopw [6, 7] (fun tv nv wr => ∃ (m : Int) (F : Nat → Prop) (ts : List Int), nv = .int .i64 m ∧ 0 ≤ m ∧ m ≤ 3 ∧ Hid ((ts.length : Int) + m ≤ 3) ∧ Hid (SD w w.heap.size v xs w1 (iS 3 tInt_law F tv ts :: l) wr)) (fun _ nv _ => (intOf nv).toNat)
  case atStart => exact ⟨n, _, [], rfl, by omega, by omega, Lib.hid (by simp; omega), SX⟩
  case round =>
    clear SX
    obtain ⟨m, F, ts, rfl, m0, m1, HL, SX⟩ := hrel
    generalize wr = wc at *
    by_cases hm : 0 < m
    · go_wp2_with fail
      refine (below_any w _ v xs _ SX.out.cur (5) (by omega) (by omega)).mono ?_
      rintro e wn ⟨x, x0, x1, rfl, hC, hg⟩
      replace SX := Lib.hid (SX.out.draw hC hg)
      clear hC hg
      rename World => wc
      have SA := Lib.hid (SX.out.box [.int .i64 x] 3)
      go_wp2_with (at_builtin; refine append_flat tInt_law flat_int info_T_int Tryd.underlying24 rfl rfl (.tmp 22) (.tmp 24) rfl F (fun b => F b ∨ b = _) _ _ ts [x] rfl rfl (SA.out.gS 1 rfl) (slR_num (SA.out.gB 0 rfl)) (fun _ h => Or.inl h) (Or.inr rfl) (by have := HL.out; simp; omega) ?_)
      intro u' wn oN tN
      obtain ⟨F2, sp⟩ := SA.out.appS 1 rfl oN tN (fun b h => h.imp_right (fun q => by rw [q]; first | exact Nat.le_refl _ | simp))
      have SQ := Lib.hid (sd_drop sp)
      have HZ : Hid (((ts ++ [x]).length : Int) + (m - 1) ≤ 3) := Lib.hid (by have := HL.out; simp only [List.length_append, List.length_cons, List.length_nil]; omega)
      clear sp oN tN SA SX HL
      generalize ts ++ [x] = ts2 at *
      go_wp2
      go_roundw
      case rel => exact ⟨m - 1, F2, ts2, rfl, by omega, by omega, HZ, SQ⟩
      case measure => simp [intOf]; omega
    · obtain rfl : m = 0 := by omega
      have HL3 : Hid (ts.length ≤ 3) := Lib.hid (by have := HL.out; omega)
      clear HL
      go_wp2
      first | (go_ret2; exact ⟨u, u6, ys, ts, rfl, RK.out _ SX.out.s.2.2, ZK.out, SX.out.rS 0 rfl, HL3.out, SX.out.cur.old⟩) | (go_ret; exact ⟨u, u6, ys, ts, rfl, RK.out _ SX.out.s.2.2, ZK.out, SX.out.rS 0 rfl, HL3.out, SX.out.cur.old⟩)
end Go.Proofs.YtjeaimdnddelpaaDoor
namespace Go.Proofs.YtjeaimdnddelpaaDoor
open Go.RowKit
set_option linter.unusedVariables false
/-- Two lists are drawn. -/
def Two (w : World) (e : Ending) (w' : World) : Prop :=
  ∃ (u t : Value) (a b : List Int), a.length ≤ 7 ∧ b.length ≤ 7 ∧ e = .returned (.tuple #[u, t]) ∧ OwnsN w' w.heap.size u a ∧ OwnsN w' w.heap.size t b ∧ Below w.heap.size w w'
end Go.Proofs.YtjeaimdnddelpaaDoor
namespace Go.Proofs.YtjeaimdnddelpaaDoor
open Go.RowKit
set_option linter.unusedVariables false
set_option linter.unusedSimpArgs false
end Go.Proofs.YtjeaimdnddelpaaDoor
namespace Go.Proofs.YtjeaimdnddelpaaDoor
open Go.RowKit
set_option linter.unusedVariables false
set_option linter.unusedSimpArgs false
end Go.Proofs.YtjeaimdnddelpaaDoor
namespace Go.Proofs.YtjeaimdnddelpaaDoor
open Go.RowKit
set_option linter.unusedVariables false
set_option linter.unusedSimpArgs false
end Go.Proofs.YtjeaimdnddelpaaDoor
namespace Go.Proofs.YtjeaimdnddelpaaDoor
open Go.RowKit
set_option linter.unusedVariables false
set_option linter.unusedSimpArgs false
end Go.Proofs.YtjeaimdnddelpaaDoor
namespace Go.Proofs.YtjeaimdnddelpaaDoor
open Go.RowKit
set_option linter.unusedVariables false
set_option linter.unusedSimpArgs false
end Go.Proofs.YtjeaimdnddelpaaDoor
namespace Go.Proofs.YtjeaimdnddelpaaDoor
open Go.RowKit
set_option linter.unusedVariables false
set_option linter.unusedSimpArgs false
end Go.Proofs.YtjeaimdnddelpaaDoor
namespace Go.Proofs.YtjeaimdnddelpaaDoor
open Go.RowKit
set_option linter.unusedVariables false
set_option linter.unusedSimpArgs false
end Go.Proofs.YtjeaimdnddelpaaDoor
namespace Go.Proofs.YtjeaimdnddelpaaDoor
open Go.RowKit
set_option linter.unusedVariables false
set_option linter.unusedSimpArgs false
end Go.Proofs.YtjeaimdnddelpaaDoor
namespace Go.Proofs.YtjeaimdnddelpaaDoor
open Go.RowKit
set_option linter.unusedVariables false
set_option linter.unusedSimpArgs false
/-- What holds at w holds whatever the blocks below B come to hold. -/
def Kept (B : Nat) (P : World → Prop) (w : World) : Prop := ∀ w', Turn (fun b => b < B) w w' → P w'
theorem Kept.at {B : Nat} {P : World → Prop} {w : World} (h : Kept B P w) : P w := h w (Turn.refl _ _)
theorem Kept.on {B : Nat} {P : World → Prop} {w w' : World} (h : Kept B P w) (k : Turn (fun b => b < B) w w') : Kept B P w' := fun w'' k' => h w'' (k.trans k')
theorem Kept.grown {B c : Nat} {P : World → Prop} {w w' : World} (h : Kept B P w) (hg : w.grownBy w' (some c)) (hc : c < B) : Kept B P w' := h.on (turn_grown hg (fun b hb => by cases hb; exact hc))
theorem Kept.below {B C : Nat} {P : World → Prop} {w w' : World} (h : Kept B P w) (hb : Below C w w') (hC : C = w.heap.size) : Kept B P w' := by
  subst hC; exact h.on (turn_below hb)
theorem Kept.set {B : Nat} {P : World → Prop} {w : World} (h : Kept B P w) {g : Nat} (hg : g < B) (j : Nat) (u : Value) : Kept B P (w.setCell ⟨g, j, none⟩ u) := h.on (turn_set (G := fun b => b < B) hg)
theorem Kept.alloc {B : Nat} {P : World → Prop} {w : World} (h : Kept B P w) (o : Obj) : Kept B P (w.alloc o) := h.below ((Below.refl w.heap.size w).alloc (Nat.le_refl _) o) rfl
theorem Kept.drew {B : Nat} {P : World → Prop} {w : World} (h : Kept B P w) : Kept B P w.drew := h.below (below_drew (Below.refl w.heap.size w)) rfl
end Go.Proofs.YtjeaimdnddelpaaDoor
namespace Go.Proofs.YtjeaimdnddelpaaDoor
open Go.ChangeShapes Go.WideShapes Go.ChangeAt Go.WideMaps Go.WideElems Go.RowKit
set_option linter.unusedVariables false
theorem cU8c : Tryd.prog.cellsOf 5 = 1 := by kernel_rfl
theorem laidOut : laidOutB Tryd.prog = true := by kernel_rfl
theorem recCode : Tryd.prog.readableRec 22 = true := by kernel_rfl
theorem rowCode : 22 < Tryd.prog.types.size := of_decide_eq_true (by kernel_rfl)
set_option maxRecDepth 100000 in
/-- A slice of bytes that came in reads as bytes. -/
theorem code_open {H : Type} {enc : TypeId × Value → H} {W : World} {r : Reach} {b0 : Nat} {v : Value} {d : DataW H} {p : List MemPlace} (hval : Value.okWide Tryd.prog W r b0 22 v) (h : DataW.Trod enc Tryd.prog W 0 (fun _ => true) true 22 v d p) :
    ∃ a xs cap, v = .slice a xs.length cap ∧ Code W v xs ∧ ∀ x ∈ xs, 0 ≤ x ∧ x ≤ 255 := by
  obtain ⟨a, len, cap, rfl⟩ := okWide_slice Tryd.underlying22 hval
  obtain ⟨fuel, hf⟩ := h
  rcases open_ints Tryd.underlying22 Tryd.underlying5 cU8c hf with ⟨hcs, _⟩ | ⟨a', len', cap', zs, hcs, _, hl, hm, hz, _, hcell, hwz⟩
  · simp [Value.cells] at hcs
    obtain ⟨rfl, rfl, rfl⟩ := hcs
    exact ⟨none, [], 0, rfl, Or.inl ⟨rfl, none, 0, rfl⟩, by simp⟩
  · simp [Value.cells] at hcs
    obtain ⟨rfl, rfl, rfl⟩ := hcs
    rw [if_pos rfl] at hz
    have hb : ∀ x ∈ zs.take len, 0 ≤ x ∧ x ≤ 255 := fun x hx => by
      have h1 := hwz x (List.mem_of_mem_take hx)
      have e0 : IntKind.u8.min = 0 := by decide
      have e1 : IntKind.u8.max = 255 := by decide
      simp [Lit.wf] at h1; omega
    have hlen : (zs.take len).length = len := by rw [List.length_take]; omega
    refine ⟨some a', zs.take len, cap, by rw [hlen], ?_, hb⟩
    by_cases h0 : len = 0
    · subst h0
      exact Or.inl ⟨rfl, some a', cap, rfl⟩
    · obtain ⟨b, off, rfl, hc⟩ := ints_at hcell (by omega)
      refine Or.inr ⟨b, off, cap, by rw [hlen], by omega, ?_, ?_⟩
      · exact World.block_lt_of_cell? W _ (hc 0 (by omega))
      · intro j hj
        rw [hlen] at hj
        rw [hc j (by omega)]
        simp [List.getD, hj]
end Go.Proofs.YtjeaimdnddelpaaDoor
namespace Go.Proofs.YtjeaimdnddelpaaDoor
open Go.RowKit
set_option linter.unusedVariables false
set_option linter.unusedSimpArgs false
end Go.Proofs.YtjeaimdnddelpaaDoor
namespace Go.Proofs.YtjeaimdnddelpaaDoor
open Go.RowKit
set_option linter.unusedVariables false
set_option linter.unusedSimpArgs false
set_option maxHeartbeats 2000000 in
set_option maxRecDepth 100000 in
theorem sameS_any (v u : Value) (xs ys : List Int) (w : World) (h : Ints w v xs) (g : Ints w u ys) (hn : xs.length ≤ 1048576) (hm : ys.length ≤ 1048576) :
    Calls Tryd.prog 7 #[v, u] w fun e w' => e = .returned (.bool (decide (xs = ys))) ∧ Below w.heap.size w w' := by
  have H := Lib.hid h
  have G := Lib.hid g
  obtain ⟨a, cap, rfl⟩ := ints_len h
  obtain ⟨a2, cap2, rfl⟩ := ints_len g
  clear h g
  by_cases hl : xs.length = ys.length
  · have HL := Lib.hid hl
    have hne : ((xs.length : Int) != (ys.length : Int)) = false := by rw [hl]; simp
    clear hl
    go_enter Tryd.func7, Tryd.ntmps7
    go_wp2
    clear hne
    go_loopw [5] (fun i wr => ∃ k : Nat, k ≤ xs.length ∧ i = .int .i64 k ∧ Hid (∀ j, j < k → xs.getD j 0 = ys.getD j 0) ∧ Below w.heap.size w wr) (fun i _ => xs.length - (intOf i).toNat)
    case atStart => exact ⟨0, Nat.zero_le _, rfl, Lib.hid (fun j hj => by omega), Below.refl _ _⟩
    case round =>
      obtain ⟨k, hk, rfl, hall, hbel⟩ := hrel
      by_cases hlt : k < xs.length
      · obtain ⟨b, off, cap', hv, hbl, hc⟩ := ints_cell H.out (by omega)
        simp only [Value.slice.injEq] at hv
        obtain ⟨rfl, _, rfl⟩ := hv
        obtain ⟨b2, off2, cap2', hv2, hbl2, hc2⟩ := ints_cell G.out (by have := HL.out; omega)
        simp only [Value.slice.injEq] at hv2
        obtain ⟨rfl, _, rfl⟩ := hv2
        have hcell := (hbel.cell (p := ⟨b, off + k, none⟩) hbl).trans (hc k hlt)
        have hcell2 := (hbel.cell (p := ⟨b2, off2 + k, none⟩) hbl2).trans (hc2 k (by have := HL.out; omega))
        have i1 : (0 : Int) ≤ (k : Int) := by omega
        have i2 : (k : Int) < (xs.length : Int) := by omega
        have i3 : (k : Int) < (ys.length : Int) := by have := HL.out; omega
        clear hc hc2
        by_cases he : xs.getD k 0 = ys.getD k 0
        · have HA : Hid (∀ j, j < k + 1 → xs.getD j 0 = ys.getD j 0) := Lib.hid (fun j hj => by
            by_cases e : j = k
            · exact e ▸ he
            · exact hall.out j (by omega))
          rw [← he] at hcell2
          clear he hall
          generalize xs.getD k 0 = y at hcell hcell2
          go_wp2
          go_quiet (fail)
          go_wp2
          go_roundw
          case rel => exact ⟨k + 1, by omega, by go_num, HA, below_dn hbel _⟩
          case measure => simp [intOf]; omega
        · have HF := Lib.hid (decide_eq_false (list_ne_at hlt he))
          have heq : (xs.getD k 0 != ys.getD k 0) = true := by rw [bne_iff_ne]; exact he
          clear he hall
          generalize xs.getD k 0 = y at hcell heq
          generalize ys.getD k 0 = z at hcell2 heq
          go_wp2
          go_quiet (fail)
          go_wp2
          go_ret
          exact ⟨ret_b HF.out.symm, below_dn hbel _⟩
      · obtain rfl : k = xs.length := by omega
        have HT := Lib.hid (decide_eq_true (list_eq_all HL.out hall.out))
        clear hall
        go_wp2
        go_ret
        exact ⟨ret_b HT.out.symm, hbel⟩
  · have HF := Lib.hid (decide_eq_false (show ¬ xs = ys from fun e => hl (by rw [e])))
    have hne : ((xs.length : Int) != (ys.length : Int)) = true := by rw [bne_iff_ne]; omega
    clear hl
    go_enter Tryd.func7, Tryd.ntmps7
    go_wp2
    go_ret
    exact ⟨ret_b HF.out.symm, Below.refl _ _⟩
theorem bigS (a : Option Addr) (cap n : Nat) (w : World) : Calls Tryd.prog 4 #[.slice a n cap] w fun e w' => e = .returned (.bool (decide ((1048576 : Int) < (n : Int)))) ∧ w' = w := by
  go_enter Tryd.func4, Tryd.ntmps4
  go_wp2
  go_ret
  exact ⟨rfl, rfl⟩
set_option maxRecDepth 100000 in
theorem hasL (v : Value) (xs : List Int) (x : Int) (w : World) (h : Ints w v xs) (hn : xs.length ≤ 1048576) :
    Calls Tryd.prog 17 #[v, .int .i64 x] w fun e w' => e = .returned (.bool (decide (x ∈ xs))) ∧ Below w.heap.size w w' := by
  have H := Lib.hid h
  obtain ⟨a, cap, rfl⟩ := ints_len h
  clear h
  go_enter Tryd.func17, Tryd.ntmps17
  go_wp2
  go_loop [5] (fun i => ∃ k : Nat, k ≤ xs.length ∧ i = .int .i64 k ∧ Hid (∀ j, j < k → xs.getD j 0 ≠ x)) (fun i => xs.length - (intOf i).toNat)
  case atStart => exact ⟨0, Nat.zero_le _, rfl, Lib.hid (fun j hj => by omega)⟩
  case round =>
    obtain ⟨k, hk, rfl, hne⟩ := hrel
    by_cases hlt : k < xs.length
    · obtain ⟨b, off, cap', hv, hbl, hc⟩ := ints_cell H.out (by omega)
      simp only [Value.slice.injEq] at hv
      obtain ⟨rfl, _, rfl⟩ := hv
      have hcell := hc k hlt
      have i1 : (0 : Int) ≤ (k : Int) := by omega
      have i2 : (k : Int) < (xs.length : Int) := by omega
      clear hc
      by_cases he : xs.getD k 0 = x
      · have HY := Lib.hid (show decide (x ∈ xs) = true from decide_eq_true ((member_iff xs x).2 ⟨k, hlt, he⟩))
        rw [he] at hcell
        have heq : (x == x) = true := by simp
        clear he
        go_wp2
        go_ret
        exact ⟨ret_b HY.out.symm, Below.refl _ _⟩
      · have HN : Hid (∀ j, j < k + 1 → xs.getD j 0 ≠ x) := Lib.hid (fun j hj => by
          by_cases e : j = k
          · exact e ▸ he
          · exact hne.out j (by omega))
        have heq : (xs.getD k 0 == x) = false := by rw [beq_eq_false_iff_ne]; exact he
        clear he
        generalize xs.getD k 0 = y at hcell heq
        go_wp2
        go_round
        case rel => exact ⟨k + 1, by omega, by go_num, HN⟩
        case measure => simp [intOf]; omega
    · have HN := Lib.hid (show decide (x ∈ xs) = false from decide_eq_false (fun g => by
        obtain ⟨j, hj, e⟩ := (member_iff xs x).1 g
        exact hne.out j (by omega) e))
      go_wp2
      go_ret
      exact ⟨ret_b HN.out.symm, Below.refl _ _⟩
end Go.Proofs.YtjeaimdnddelpaaDoor
namespace Go.Proofs.YtjeaimdnddelpaaDoor
open Go.RowKit
set_option linter.unusedVariables false
set_option linter.unusedSimpArgs false
theorem shares_valid {x : ChargeD} (h : (sharesX x).length ≠ 0) : chargeB x = true := by
  rcases Bool.eq_false_or_eq_true (chargeB x) with g | g
  · exact g
  · rw [sharesX_no g] at h; exact absurd rfl h
set_option maxHeartbeats 32000000 in
set_option maxRecDepth 100000 in
theorem law_fnCharges (p : Option Addr) (cap : Nat) (xs : List Int) (w : World) (hcode : Code w (.slice p xs.length cap) xs) (hby : ∀ x ∈ xs, 0 ≤ x ∧ x ≤ 255) (htab : TabZ w ∧ Tab w) :
    Calls Tryd.prog 3 #[.slice p xs.length cap] w fun e w' => e = .returned (.bool true) ∧ Below w.heap.size w w' := by
  obtain ⟨hTZ, hT⟩ := htab
  by_cases hl : xs.length ≤ 1048576
  rotate_left
  · have HBG := Lib.hid (fun w => bigS p cap xs.length w)
    rw [show decide ((1048576 : Int) < (xs.length : Int)) = true from decide_eq_true (by omega)] at HBG
    clear hcode hby hTZ hT
    go_enter Tryd.func3, Tryd.ntmps3
    go_wp2_with fail
    refine (HBG.out _).mono ?_
    rintro e w0 ⟨rfl, rfl⟩
    go_wp2
    go_ret
    exact ⟨rfl, Below.refl _ _⟩
  have HD := Lib.hid (drawShares (.slice p xs.length cap) xs w hcode hl hby)
  have HD2 := Lib.hid (fun u (c : Below w.heap.size w u) => drawCoal (.slice p xs.length cap) xs u (code_below hcode c) hl hby)
  have HD3 := Lib.hid (fun u (c : Below w.heap.size w u) => drawTenant (.slice p xs.length cap) xs u (code_below hcode c) hl hby)
  have HT := Lib.hid hT
  have HBG := Lib.hid (fun w => bigS p cap xs.length w)
  rw [show decide ((1048576 : Int) < (xs.length : Int)) = false from decide_eq_false (by omega)] at HBG
  clear hcode hby hTZ hT hl
  go_enter Tryd.func3, Tryd.ntmps3
  go_wp2_with fail
  refine (HBG.out _).mono ?_
  rintro e w0 ⟨rfl, rfl⟩
  go_wp2_with fail
  refine HD.out.mono ?_
  rintro e w1 ⟨cs, x, rfl, hR, hz, hd⟩
  obtain ⟨sg, ba, x2, x3, x4⟩ := x
  obtain ⟨v2, v3, v4, rfl, h2, h3, h4⟩ := tCharge_R hR
  rw [tCharge_sz] at hz
  have S2 : Hid (zL tInt x2 ≤ 1048576) := Lib.hid (by omega)
  have S3 : Hid (zL tInt x3 ≤ 1048576) := Lib.hid (by omega)
  have S4 : Hid (zL tInt x4 ≤ 1048576) := Lib.hid (by omega)
  obtain ⟨p2, c2, rfl⟩ := slR_len h2
  have H2 := Lib.hid h2
  have N2 := Lib.hid (zL_len S2.out)
  obtain ⟨p3, c3, rfl⟩ := slR_len h3
  have H3 := Lib.hid h3
  have N3 := Lib.hid (zL_len S3.out)
  obtain ⟨p4, c4, rfl⟩ := slR_len h4
  have H4 := Lib.hid h4
  have N4 := Lib.hid (zL_len S4.out)
  clear h2 h3 h4 hR hz HD HBG
  have D := Lib.hid (hd.trans (((Below.refl w1.heap.size w1).alloc (Nat.le_refl _) (.cells #[.int .i64 sg, .int .i64 ba, .slice p2 x2.length c2, .slice p3 x3.length c3, .slice p4 x4.length c4] 26)).mono hd.size))
  have D1 := Lib.hid ((Below.refl w1.heap.size w1).alloc (Nat.le_refl _) (.cells #[.int .i64 sg, .int .i64 ba, .slice p2 x2.length c2, .slice p3 x3.length c3, .slice p4 x4.length c4] 26))
  have BX := Lib.hid (heap_alloc_new w1 (.cells #[.int .i64 sg, .int .i64 ba, .slice p2 x2.length c2, .slice p3 x3.length c3, .slice p4 x4.length c4] 26))
  clear hd
  have HVAL := Lib.hid (@shares_valid (sg, ba, x2, x3, x4))
  have HSUM := Lib.hid (shares_sum (sg, ba, x2, x3, x4))
  have HSB := Lib.hid (shares_bd2 (sg, ba, x2, x3, x4))
  have HSL := Lib.hid (@sharesX_len (sg, ba, x2, x3, x4))
  have HWB := Lib.hid (workX_bd (sg, ba, x2, x3, x4))
  have HSP := Lib.hid (fun h i hi => @share_split (sg, ba, x2, x3, x4) h i hi)
  have HBS := Lib.hid (fun h i => @bsh_bd (sg, ba, x2, x3, x4) h i)
  have HNN := Lib.hid (@shares_n (sg, ba, x2, x3, x4))
  have HIF := Lib.hid (@charge_iff (sg, ba, x2, x3, x4))
  have HRW := Lib.hid (fun h i hi => @chg_row (sg, ba, x2, x3, x4) h i hi)
  have HBI := Lib.hid (fun i => @shares_bd (sg, ba, x2, x3, x4) i)
  have ld := cell5 BX.out
  go_wp2_with fail
  clear ld
  generalize (w1.alloc (.cells #[.int .i64 sg, .int .i64 ba, .slice p2 x2.length c2, .slice p3 x3.length c3, .slice p4 x4.length c4] 26)) = wc at *
  refine (implSharesOf sg ba (.slice p2 x2.length c2) (.slice p3 x3.length c3) (.slice p4 x4.length c4) x2 x3 x4 _ (slR_below tInt_law H2.out D1.out) (slR_below tInt_law H3.out D1.out) (slR_below tInt_law H4.out D1.out) S2.out S3.out S4.out).mono ?_
  rintro e wc ⟨u, rfl, ho, c⟩
  have HU := Lib.hid (ownsN_ints ho)
  obtain ⟨ua, uc, rfl⟩ := ints_len HU.out
  clear ho
  replace D := Lib.hid (D.out.trans (c.mono D.out.size))
  replace BX := Lib.hid ((c.block w1.heap.size (Array.getElem?_eq_some_iff.1 BX.out).1).trans BX.out)
  replace D1 := Lib.hid (D1.out.trans (c.mono D1.out.size))
  clear c
  have DS := Lib.hid (Below.refl wc.heap.size wc)
  obtain ⟨ws, hws⟩ : ∃ ws, ws = wc := ⟨_, rfl⟩
  rw [← hws] at HU
  have DS : Hid (Below ws.heap.size ws wc) := Lib.hid (by rw [hws]; exact Below.refl _ _)
  clear hws
  obtain ⟨S, hS⟩ : ∃ S, S = sharesX (sg, ba, x2, x3, x4) := ⟨_, rfl⟩
  rw [← hS] at HVAL HSUM HSB HSL HSP HNN HBI
  have HC5a := Lib.hid (fun u h2 h3 h4 n2 n3 n4 => specSharesOf sg ba (.slice p2 x2.length c2) (.slice p3 x3.length c3) (.slice p4 x4.length c4) x2 x3 x4 u h2 h3 h4 n2 n3 n4)
  rw [← hS] at HC5a HU
  simp only [← hS]
  clear hS
  obtain ⟨bb, hb⟩ : ∃ bb, bb = chargeB (sg, ba, x2, x3, x4) := ⟨_, rfl⟩
  have HC5b := Lib.hid (fun u h2 h3 h4 s2 s3 s4 => implIsCharge sg ba (.slice p2 x2.length c2) (.slice p3 x3.length c3) (.slice p4 x4.length c4) x2 x3 x4 u h2 h3 h4 s2 s3 s4)
  have HC5c := Lib.hid (fun u h2 h3 h4 s2 s3 s4 => specIsCharge sg ba (.slice p2 x2.length c2) (.slice p3 x3.length c3) (.slice p4 x4.length c4) x2 x3 x4 u h2 h3 h4 s2 s3 s4)
  rw [← hb] at HC5b HC5c
  clear hb
  obtain ⟨W, hW⟩ : ∃ W, W = workX (sg, ba, x2, x3, x4) := ⟨_, rfl⟩
  have HC5d := Lib.hid (fun u h2 h3 h4 s2 s3 s4 => implWorkDone sg ba (.slice p2 x2.length c2) (.slice p3 x3.length c3) (.slice p4 x4.length c4) x2 x3 x4 u h2 h3 h4 s2 s3 s4)
  have HC5e := Lib.hid (fun u h2 h3 h4 s2 s3 s4 => specWorkDone sg ba (.slice p2 x2.length c2) (.slice p3 x3.length c3) (.slice p4 x4.length c4) x2 x3 x4 u h2 h3 h4 s2 s3 s4)
  rw [← hW] at HC5d HC5e HSUM HWB
  clear hW
  obtain ⟨tt, ht⟩ : ∃ tt, tt = strB (fmtC (sg, ba, x2, x3, x4)) := ⟨_, rfl⟩
  have HC5f := Lib.hid (fun u h2 h3 h4 s2 s3 s4 hT => implFormatCharge sg ba (.slice p2 x2.length c2) (.slice p3 x3.length c3) (.slice p4 x4.length c4) x2 x3 x4 u h2 h3 h4 s2 s3 s4 hT)
  have HC5g := Lib.hid (fun u h2 h3 h4 s2 s3 s4 => specFormatCharge sg ba (.slice p2 x2.length c2) (.slice p3 x3.length c3) (.slice p4 x4.length c4) x2 x3 x4 u h2 h3 h4 s2 s3 s4)
  rw [← ht] at HC5f HC5g
  clear ht
  have eB : (bb != bb) = false := by simp
  have eW : (W != W) = false := by simp
  have eT : (!(tt.toList == tt.toList)) = false := by simp
  go_wp2
  refine wp_region_held_drew (S := (fun w' => w'.heap[w1.heap.size]? = some (.cells #[.int .i64 sg, .int .i64 ba, .slice p2 x2.length c2, .slice p3 x3.length c3, .slice p4 x4.length c4] 26 (0, 0)))) (by kernel_rfl) BX.out (fun hHeld => ?_)
  have c : Below wc.heap.size wc wc.drew := ⟨rfl, rfl, rfl, Nat.le_refl _, fun _ _ => rfl⟩
  replace D := Lib.hid (D.out.trans (c.mono D.out.size))
  replace BX := Lib.hid ((c.block w1.heap.size (Array.getElem?_eq_some_iff.1 BX.out).1).trans BX.out)
  replace D1 := Lib.hid (D1.out.trans (c.mono D1.out.size))
  replace DS := Lib.hid (DS.out.trans (c.mono DS.out.size))
  clear c
  generalize wc.drew = wc at *
  refine take_runs (i := 0) (v := ?_) (by simp only [List.getElem?_toArray, List.getElem?_cons_succ, List.getElem?_cons_zero]; rfl) (by kernel_rfl) (by kernel_rfl) (by kernel_rfl) rfl (by exact fun _ _ _ h => h) (by rfl) ?_ (by assumption) ?_
  rotate_left
  · intro w hSw; (try dsimp only at hSw); have ld := cell5 hSw; go_simp; try (with_reducible rfl)
  try simp only [Act.put, List.setIfInBounds_toArray, List.set_cons_zero, List.set_cons_succ]
  refine take_runs (i := 1) (v := ?_) (by simp only [List.getElem?_toArray, List.getElem?_cons_succ, List.getElem?_cons_zero]; rfl) (by kernel_rfl) (by kernel_rfl) (by kernel_rfl) rfl (by exact fun _ _ _ h => h) (by rfl) ?_ (by assumption) ?_
  rotate_left
  · intro w hSw; (try dsimp only at hSw); have ld := cell5 hSw; go_simp; try (with_reducible rfl)
  try simp only [Act.put, List.setIfInBounds_toArray, List.set_cons_zero, List.set_cons_succ]
  refine wpAnyH_ready (rs := [2]) (by kernel_rfl) (by simp) ?_
  refine AllReadyH.cons (o := _) (by simp only [List.getElem?_toArray, List.getElem?_cons_succ, List.getElem?_cons_zero]; rfl) (fun K hK => ?_) AllReadyH.nil
  go_simp
  refine (HC5a.out _ (slR_below tInt_law H2.out D1.out) (slR_below tInt_law H3.out D1.out) (slR_below tInt_law H4.out D1.out) N2.out N3.out N4.out).mono ?_
  rintro e wn ⟨u, rfl, ho, c⟩
  have HV := Lib.hid (ownsN_ints ho)
  obtain ⟨va, vc, rfl⟩ := ints_len HV.out
  clear ho
  replace D := Lib.hid (D.out.trans (c.mono D.out.size))
  replace BX := Lib.hid ((c.block w1.heap.size (Array.getElem?_eq_some_iff.1 BX.out).1).trans BX.out)
  replace D1 := Lib.hid (D1.out.trans (c.mono D1.out.size))
  replace DS := Lib.hid (DS.out.trans (c.mono DS.out.size))
  clear c
  rename World => wc
  refine hK.out _ _ BX.out (fun hHeld => ?_)
  clear hK K
  try simp only [Act.put, List.setIfInBounds_toArray, List.set_cons_zero, List.set_cons_succ]
  refine wpAnyH_ready (rs := [3]) (by kernel_rfl) (by simp) ?_
  refine AllReadyH.cons (o := _) (by simp only [List.getElem?_toArray, List.getElem?_cons_succ, List.getElem?_cons_zero]; rfl) (fun K hK => ?_) AllReadyH.nil
  go_simp
  refine (sameS_any (.slice ua S.length uc) (.slice va S.length vc) S S _ (slR_ints (slR_below tInt_law (ints_slR HU.out) DS.out)) HV.out (by have := HSL.out; omega) (by have := HSL.out; omega)).mono ?_
  rintro e wn ⟨rfl, c⟩
  rw [decide_eq_true rfl]
  clear HV
  replace D := Lib.hid (D.out.trans (c.mono D.out.size))
  replace BX := Lib.hid ((c.block w1.heap.size (Array.getElem?_eq_some_iff.1 BX.out).1).trans BX.out)
  replace D1 := Lib.hid (D1.out.trans (c.mono D1.out.size))
  replace DS := Lib.hid (DS.out.trans (c.mono DS.out.size))
  clear c
  rename World => wc
  refine hK.out _ _ BX.out (fun hHeld => ?_)
  clear hK K
  try simp only [Act.put, List.setIfInBounds_toArray, List.set_cons_zero, List.set_cons_succ]
  refine take_runs (i := 4) (v := ?_) (by simp only [List.getElem?_toArray, List.getElem?_cons_succ, List.getElem?_cons_zero]; rfl) (by kernel_rfl) (by kernel_rfl) (by kernel_rfl) rfl (by exact fun _ _ _ h => h) (by rfl) ?_ (by assumption) ?_
  rotate_left
  · intro w hSw; (try dsimp only at hSw); have ld := cell5 hSw; go_simp; try (with_reducible rfl)
  try simp only [Act.put, List.setIfInBounds_toArray, List.set_cons_zero, List.set_cons_succ]
  refine take_runs (i := 5) (v := ?_) (by simp only [List.getElem?_toArray, List.getElem?_cons_succ, List.getElem?_cons_zero]; rfl) (by kernel_rfl) (by kernel_rfl) (by kernel_rfl) rfl (by exact fun _ _ _ h => h) (by rfl) ?_ (by assumption) ?_
  rotate_left
  · intro w hSw; (try dsimp only at hSw); have ld := cell5 hSw; go_simp; try (with_reducible rfl)
  try simp only [Act.put, List.setIfInBounds_toArray, List.set_cons_zero, List.set_cons_succ]
  refine take_runs (i := 6) (v := ?_) (by simp only [List.getElem?_toArray, List.getElem?_cons_succ, List.getElem?_cons_zero]; rfl) (by kernel_rfl) (by kernel_rfl) (by kernel_rfl) rfl (by exact fun _ _ _ h => h) (by rfl) ?_ (by assumption) ?_
  rotate_left
  · intro w hSw; (try dsimp only at hSw); have ld := cell5 hSw; go_simp; try (with_reducible rfl)
  try simp only [Act.put, List.setIfInBounds_toArray, List.set_cons_zero, List.set_cons_succ]
  refine take_runs (i := 8) (v := ?_) (by simp only [List.getElem?_toArray, List.getElem?_cons_succ, List.getElem?_cons_zero]; rfl) (by kernel_rfl) (by kernel_rfl) (by kernel_rfl) rfl (by exact fun _ _ _ h => h) (by rfl) ?_ (by assumption) ?_
  rotate_left
  · intro w hSw; (try dsimp only at hSw); have ld := cell5 hSw; go_simp; try (with_reducible rfl)
  try simp only [Act.put, List.setIfInBounds_toArray, List.set_cons_zero, List.set_cons_succ]
  refine wpAnyH_ready (rs := [7]) (by kernel_rfl) (by simp) ?_
  refine AllReadyH.cons (o := _) (by simp only [List.getElem?_toArray, List.getElem?_cons_succ, List.getElem?_cons_zero]; rfl) (fun K hK => ?_) AllReadyH.nil
  go_simp
  refine (HC5b.out _ (slR_below tInt_law H2.out D1.out) (slR_below tInt_law H3.out D1.out) (slR_below tInt_law H4.out D1.out) S2.out S3.out S4.out).mono ?_
  rintro e wn ⟨rfl, c⟩
  replace D := Lib.hid (D.out.trans (c.mono D.out.size))
  replace BX := Lib.hid ((c.block w1.heap.size (Array.getElem?_eq_some_iff.1 BX.out).1).trans BX.out)
  replace D1 := Lib.hid (D1.out.trans (c.mono D1.out.size))
  replace DS := Lib.hid (DS.out.trans (c.mono DS.out.size))
  clear c
  rename World => wc
  refine hK.out _ _ BX.out (fun hHeld => ?_)
  clear hK K
  try simp only [Act.put, List.setIfInBounds_toArray, List.set_cons_zero, List.set_cons_succ]
  refine wpAnyH_ready (rs := [9]) (by kernel_rfl) (by simp) ?_
  refine AllReadyH.cons (o := _) (by simp only [List.getElem?_toArray, List.getElem?_cons_succ, List.getElem?_cons_zero]; rfl) (fun K hK => ?_) AllReadyH.nil
  go_simp
  refine (HC5c.out _ (slR_below tInt_law H2.out D1.out) (slR_below tInt_law H3.out D1.out) (slR_below tInt_law H4.out D1.out) N2.out N3.out N4.out).mono ?_
  rintro e wn ⟨rfl, c⟩
  replace D := Lib.hid (D.out.trans (c.mono D.out.size))
  replace BX := Lib.hid ((c.block w1.heap.size (Array.getElem?_eq_some_iff.1 BX.out).1).trans BX.out)
  replace D1 := Lib.hid (D1.out.trans (c.mono D1.out.size))
  replace DS := Lib.hid (DS.out.trans (c.mono DS.out.size))
  clear c
  rename World => wc
  refine hK.out _ _ BX.out (fun hHeld => ?_)
  clear hK K
  try simp only [Act.put, List.setIfInBounds_toArray, List.set_cons_zero, List.set_cons_succ]
  refine take_runs (i := 10) (v := ?_) (by simp only [List.getElem?_toArray, List.getElem?_cons_succ, List.getElem?_cons_zero]; rfl) (by kernel_rfl) (by kernel_rfl) (by kernel_rfl) rfl (by exact fun _ _ _ h => h) (by rfl) ?_ (by assumption) ?_
  rotate_left
  · intro w hSw; (try dsimp only at hSw); have ld := cell5 hSw; go_simp; try (with_reducible rfl)
  try simp only [Act.put, List.setIfInBounds_toArray, List.set_cons_zero, List.set_cons_succ]
  refine take_runs (i := 11) (v := ?_) (by simp only [List.getElem?_toArray, List.getElem?_cons_succ, List.getElem?_cons_zero]; rfl) (by kernel_rfl) (by kernel_rfl) (by kernel_rfl) rfl (by exact fun _ _ _ h => h) (by rfl) ?_ (by assumption) ?_
  rotate_left
  · intro w hSw; (try dsimp only at hSw); have ld := cell5 hSw; go_simp; try (with_reducible rfl)
  try simp only [Act.put, List.setIfInBounds_toArray, List.set_cons_zero, List.set_cons_succ]
  refine take_runs (i := 12) (v := ?_) (by simp only [List.getElem?_toArray, List.getElem?_cons_succ, List.getElem?_cons_zero]; rfl) (by kernel_rfl) (by kernel_rfl) (by kernel_rfl) rfl (by exact fun _ _ _ h => h) (by rfl) ?_ (by assumption) ?_
  rotate_left
  · intro w hSw; (try dsimp only at hSw); have ld := cell5 hSw; go_simp; try (with_reducible rfl)
  try simp only [Act.put, List.setIfInBounds_toArray, List.set_cons_zero, List.set_cons_succ]
  refine take_runs (i := 13) (v := ?_) (by simp only [List.getElem?_toArray, List.getElem?_cons_succ, List.getElem?_cons_zero]; rfl) (by kernel_rfl) (by kernel_rfl) (by kernel_rfl) rfl (by exact fun _ _ _ h => h) (by rfl) ?_ (by assumption) ?_
  rotate_left
  · intro w hSw; (try dsimp only at hSw); have ld := cell5 hSw; go_simp; try (with_reducible rfl)
  try simp only [Act.put, List.setIfInBounds_toArray, List.set_cons_zero, List.set_cons_succ]
  refine take_runs (i := 15) (v := ?_) (by simp only [List.getElem?_toArray, List.getElem?_cons_succ, List.getElem?_cons_zero]; rfl) (by kernel_rfl) (by kernel_rfl) (by kernel_rfl) rfl (by exact fun _ _ _ h => h) (by rfl) ?_ (by assumption) ?_
  rotate_left
  · intro w hSw; (try dsimp only at hSw); have ld := cell5 hSw; go_simp; try (with_reducible rfl)
  try simp only [Act.put, List.setIfInBounds_toArray, List.set_cons_zero, List.set_cons_succ]
  refine wpAnyH_ready (rs := [14]) (by kernel_rfl) (by simp) ?_
  refine AllReadyH.cons (o := _) (by simp only [List.getElem?_toArray, List.getElem?_cons_succ, List.getElem?_cons_zero]; rfl) (fun K hK => ?_) AllReadyH.nil
  go_simp
  refine (HC5d.out _ (slR_below tInt_law H2.out D1.out) (slR_below tInt_law H3.out D1.out) (slR_below tInt_law H4.out D1.out) S2.out S3.out S4.out).mono ?_
  rintro e wn ⟨rfl, c⟩
  replace D := Lib.hid (D.out.trans (c.mono D.out.size))
  replace BX := Lib.hid ((c.block w1.heap.size (Array.getElem?_eq_some_iff.1 BX.out).1).trans BX.out)
  replace D1 := Lib.hid (D1.out.trans (c.mono D1.out.size))
  replace DS := Lib.hid (DS.out.trans (c.mono DS.out.size))
  clear c
  rename World => wc
  refine hK.out _ _ BX.out (fun hHeld => ?_)
  clear hK K
  try simp only [Act.put, List.setIfInBounds_toArray, List.set_cons_zero, List.set_cons_succ]
  refine wpAnyH_ready (rs := [16]) (by kernel_rfl) (by simp) ?_
  refine AllReadyH.cons (o := _) (by simp only [List.getElem?_toArray, List.getElem?_cons_succ, List.getElem?_cons_zero]; rfl) (fun K hK => ?_) AllReadyH.nil
  go_simp
  refine (HC5e.out _ (slR_below tInt_law H2.out D1.out) (slR_below tInt_law H3.out D1.out) (slR_below tInt_law H4.out D1.out) N2.out N3.out N4.out).mono ?_
  rintro e wn ⟨rfl, c⟩
  replace D := Lib.hid (D.out.trans (c.mono D.out.size))
  replace BX := Lib.hid ((c.block w1.heap.size (Array.getElem?_eq_some_iff.1 BX.out).1).trans BX.out)
  replace D1 := Lib.hid (D1.out.trans (c.mono D1.out.size))
  replace DS := Lib.hid (DS.out.trans (c.mono DS.out.size))
  clear c
  rename World => wc
  refine hK.out _ _ BX.out (fun hHeld => ?_)
  clear hK K
  try simp only [Act.put, List.setIfInBounds_toArray, List.set_cons_zero, List.set_cons_succ]
  refine take_runs (i := 17) (v := ?_) (by simp only [List.getElem?_toArray, List.getElem?_cons_succ, List.getElem?_cons_zero]; rfl) (by kernel_rfl) (by kernel_rfl) (by kernel_rfl) rfl (by exact fun _ _ _ h => h) (by rfl) ?_ (by assumption) ?_
  rotate_left
  · intro w hSw; (try dsimp only at hSw); have ld := cell5 hSw; go_simp; try (with_reducible rfl)
  try simp only [Act.put, List.setIfInBounds_toArray, List.set_cons_zero, List.set_cons_succ]
  refine take_runs (i := 18) (v := ?_) (by simp only [List.getElem?_toArray, List.getElem?_cons_succ, List.getElem?_cons_zero]; rfl) (by kernel_rfl) (by kernel_rfl) (by kernel_rfl) rfl (by exact fun _ _ _ h => h) (by rfl) ?_ (by assumption) ?_
  rotate_left
  · intro w hSw; (try dsimp only at hSw); have ld := cell5 hSw; go_simp; try (with_reducible rfl)
  try simp only [Act.put, List.setIfInBounds_toArray, List.set_cons_zero, List.set_cons_succ]
  refine take_runs (i := 19) (v := ?_) (by simp only [List.getElem?_toArray, List.getElem?_cons_succ, List.getElem?_cons_zero]; rfl) (by kernel_rfl) (by kernel_rfl) (by kernel_rfl) rfl (by exact fun _ _ _ h => h) (by rfl) ?_ (by assumption) ?_
  rotate_left
  · intro w hSw; (try dsimp only at hSw); have ld := cell5 hSw; go_simp; try (with_reducible rfl)
  try simp only [Act.put, List.setIfInBounds_toArray, List.set_cons_zero, List.set_cons_succ]
  refine take_runs (i := 20) (v := ?_) (by simp only [List.getElem?_toArray, List.getElem?_cons_succ, List.getElem?_cons_zero]; rfl) (by kernel_rfl) (by kernel_rfl) (by kernel_rfl) rfl (by exact fun _ _ _ h => h) (by rfl) ?_ (by assumption) ?_
  rotate_left
  · intro w hSw; (try dsimp only at hSw); have ld := cell5 hSw; go_simp; try (with_reducible rfl)
  try simp only [Act.put, List.setIfInBounds_toArray, List.set_cons_zero, List.set_cons_succ]
  refine take_runs (i := 22) (v := ?_) (by simp only [List.getElem?_toArray, List.getElem?_cons_succ, List.getElem?_cons_zero]; rfl) (by kernel_rfl) (by kernel_rfl) (by kernel_rfl) rfl (by exact fun _ _ _ h => h) (by rfl) ?_ (by assumption) ?_
  rotate_left
  · intro w hSw; (try dsimp only at hSw); have ld := cell5 hSw; go_simp; try (with_reducible rfl)
  try simp only [Act.put, List.setIfInBounds_toArray, List.set_cons_zero, List.set_cons_succ]
  refine wpAnyH_ready (rs := [21]) (by kernel_rfl) (by simp) ?_
  refine AllReadyH.cons (o := _) (by simp only [List.getElem?_toArray, List.getElem?_cons_succ, List.getElem?_cons_zero]; rfl) (fun K hK => ?_) AllReadyH.nil
  go_simp
  refine (HC5f.out _ (slR_below tInt_law H2.out D1.out) (slR_below tInt_law H3.out D1.out) (slR_below tInt_law H4.out D1.out) S2.out S3.out S4.out (HT.out.on D.out)).mono ?_
  rintro e wn ⟨rfl, c⟩
  replace D := Lib.hid (D.out.trans (c.mono D.out.size))
  replace BX := Lib.hid ((c.block w1.heap.size (Array.getElem?_eq_some_iff.1 BX.out).1).trans BX.out)
  replace D1 := Lib.hid (D1.out.trans (c.mono D1.out.size))
  replace DS := Lib.hid (DS.out.trans (c.mono DS.out.size))
  clear c
  rename World => wc
  refine hK.out _ _ BX.out (fun hHeld => ?_)
  clear hK K
  try simp only [Act.put, List.setIfInBounds_toArray, List.set_cons_zero, List.set_cons_succ]
  refine wpAnyH_ready (rs := [23]) (by kernel_rfl) (by simp) ?_
  refine AllReadyH.cons (o := _) (by simp only [List.getElem?_toArray, List.getElem?_cons_succ, List.getElem?_cons_zero]; rfl) (fun K hK => ?_) AllReadyH.nil
  go_simp
  refine (HC5g.out _ (slR_below tInt_law H2.out D1.out) (slR_below tInt_law H3.out D1.out) (slR_below tInt_law H4.out D1.out) N2.out N3.out N4.out).mono ?_
  rintro e wn ⟨rfl, c⟩
  replace D := Lib.hid (D.out.trans (c.mono D.out.size))
  replace BX := Lib.hid ((c.block w1.heap.size (Array.getElem?_eq_some_iff.1 BX.out).1).trans BX.out)
  replace D1 := Lib.hid (D1.out.trans (c.mono D1.out.size))
  replace DS := Lib.hid (DS.out.trans (c.mono DS.out.size))
  clear c
  rename World => wc
  refine hK.out _ _ BX.out (fun hHeld => ?_)
  clear hK K
  try simp only [Act.put, List.setIfInBounds_toArray, List.set_cons_zero, List.set_cons_succ]
  refine take_runs (i := 24) (v := ?_) (by simp only [List.getElem?_toArray, List.getElem?_cons_succ, List.getElem?_cons_zero]; rfl) (by kernel_rfl) (by kernel_rfl) (by kernel_rfl) rfl (by exact fun _ _ _ h => h) (by rfl) ?_ (by assumption) ?_
  rotate_left
  · intro w hSw; (try dsimp only at hSw); have ld := cell5 hSw; go_simp; try (with_reducible rfl)
  try simp only [Act.put, List.setIfInBounds_toArray, List.set_cons_zero, List.set_cons_succ]
  refine take_runs (i := 25) (v := ?_) (by simp only [List.getElem?_toArray, List.getElem?_cons_succ, List.getElem?_cons_zero]; rfl) (by kernel_rfl) (by kernel_rfl) (by kernel_rfl) rfl (by exact fun _ _ _ h => h) (by rfl) ?_ (by assumption) ?_
  rotate_left
  · intro w hSw; (try dsimp only at hSw); have ld := cell5 hSw; go_simp; try (with_reducible rfl)
  try simp only [Act.put, List.setIfInBounds_toArray, List.set_cons_zero, List.set_cons_succ]
  refine wpAnyH_done (by kernel_rfl) ?_ _
  clear hHeld eB eW eT HC5a HC5b HC5c HC5e HC5f HC5g
  go_wp2
  go_loopw [5, 6] (fun n i wr => ∃ (k : Nat) (z : Int), k ≤ S.length ∧ i = .int .i64 k ∧ n = .int .i64 z ∧ Hid (z = accN (getI S) k) ∧ Below wc.heap.size wc wr) (fun _ i _ => S.length - (intOf i).toNat)
  case atStart => exact ⟨0, 0, Nat.zero_le _, rfl, rfl, Lib.hid rfl, Below.refl _ _⟩
  case round =>
    obtain ⟨k, z, hk, rfl, rfl, hz, c⟩ := hrel
    have CW := Lib.hid c
    replace D := Lib.hid (D.out.trans (c.mono D.out.size))
    replace BX := Lib.hid ((c.block w1.heap.size (Array.getElem?_eq_some_iff.1 BX.out).1).trans BX.out)
    replace D1 := Lib.hid (D1.out.trans (c.mono D1.out.size))
    replace DS := Lib.hid (DS.out.trans (c.mono DS.out.size))
    clear c
    generalize wr = wd at *
    have z1 := HSB.out k
    have z2 := HSL.out
    rw [← hz.out] at z1
    have z3 : z ≤ 72 := by omega
    obtain ⟨z4, _⟩ := z1
    by_cases hlt : k < S.length
    · have HV := HVAL.out (by omega)
      have n1 := HNN.out HV
      have HF := (HIF.out HV).2.1
      obtain ⟨⟨f1, f2⟩, ⟨f3, f4⟩, ⟨f5, f6⟩, ⟨f7, f8⟩⟩ := HF
      dsimp only at f1 f2 f3 f4 f5 f6 f7 f8 n1
      have hk4 : k < x4.length := by omega
      have hsp := HSP.out HV k (by show k < x2.length; omega)
      have hbs := HBS.out HV k
      have hrw := HRW.out HV k hk4
      have hbi := HBI.out k
      try dsimp only at hsp
      try dsimp only at hbs
      try dsimp only at hrw
      rw [← n1] at hbs
      have hri : rowI (sg, ba, x2, x3, x4) k = x4.getD k 0 := rfl
      rw [hri] at hsp
      obtain ⟨bu, ou, cu, hv, hbl, hcu⟩ := ints_cell (slR_ints (slR_below tInt_law (ints_slR HU.out) DS.out)) (show 0 < S.length by omega)
      simp only [Value.slice.injEq] at hv
      obtain ⟨rfl, _, rfl⟩ := hv
      have e0 := hcu k hlt
      clear hcu hbl
      obtain ⟨b4, o4, cc4, hv, hbl, hc4⟩ := ints_cell (slR_ints (slR_below tInt_law H4.out D1.out)) (show 0 < x4.length by omega)
      simp only [Value.slice.injEq] at hv
      obtain ⟨rfl, _, rfl⟩ := hv
      have e4 := hc4 k hk4
      clear hc4 hbl
      have HZ : Hid (z + S.getD k 0 = accN (getI S) (k + 1)) := Lib.hid (by rw [accN_succ, ← hz.out]; rfl)
      generalize S.getD k 0 = s at *
      generalize x4.getD k 0 = r at *
      generalize bshI (sg, ba, x2, x3, x4) k = bk at *
      have t1 : ba.tdiv (S.length : Int) = ba / (S.length : Int) := Int.tdiv_eq_ediv_of_nonneg f7
      have t2 : (ba + (S.length : Int) - 1).tdiv (S.length : Int) = (ba + (S.length : Int) - 1) / (S.length : Int) := Int.tdiv_eq_ediv_of_nonneg (by omega)
      have q1 : 0 ≤ ba / (S.length : Int) := Int.ediv_nonneg f7 (by omega)
      have q2 : (ba + (S.length : Int) - 1) / (S.length : Int) ≤ ba + (S.length : Int) - 1 := Int.ediv_le_self _ (by omega)
      have q3 : ba / (S.length : Int) ≤ ba := Int.ediv_le_self _ f7
      have q4 : 0 ≤ (ba + (S.length : Int) - 1) / (S.length : Int) := Int.ediv_nonneg (by omega) (by omega)
      generalize ba / (S.length : Int) = Q1 at *
      generalize (ba + (S.length : Int) - 1) / (S.length : Int) = Q2 at *
      obtain ⟨m1, m2, m3⟩ := hbs
      obtain ⟨s1, s2⟩ := hbi
      obtain ⟨r1, r2⟩ := hrw
      have ebk : s - r = bk := by omega
      have g1 : decide (s - r < Q1) = false := decide_eq_false (by omega)
      have g2 : decide (Q2 < s - r) = false := decide_eq_false (by omega)
      have i1 : (0 : Int) ≤ (k : Int) := by omega
      have i2 : (k : Int) < (S.length : Int) := by omega
      have i3 : (k : Int) < (x4.length : Int) := by omega
      have j2 : (0 : Int) < (S.length : Int) := by omega
      have g4 : ((S.length : Int) == 0) = false := by rw [beq_eq_false_iff_ne]; omega
      have g5 : ¬ (S.length : Int) = 0 := by omega
      have g6 : ¬ S = [] := fun h => by rw [h] at hlt; simp at hlt
      have w1_ : IntKind.i64.wrap Q1 = Q1 := IntWalk.i64_in _ (by omega)
      have w2_ : IntKind.i64.wrap Q2 = Q2 := IntWalk.i64_in _ (by omega)
      have w3_ : IntKind.i64.wrap (s - r) = s - r := IntWalk.i64_in _ (by omega)
      have b1 : s - r ≤ 100 := by omega
      have b2 : -100 ≤ s - r := by omega
      have T1 := Lib.hid t1; have T2 := Lib.hid t2
      have G4 := Lib.hid (show True from trivial)
      clear ebk hsp hri m1 m2 m3 q2 q3 n1 HV f1 f2 f3 f4 f5 f6 hk4 hk t1 t2 G4
      have ld := cell5 BX.out
      have kw1 := Lib.hid w1_; have kw2 := Lib.hid w2_
      clear w1_ w2_
      have W3 := Lib.hid w3_
      clear w3_
      go_wp2
      have w3_ := W3.out
      go_quiet (fail)
      clear w3_
      have t1 := T1.out; have t2 := T2.out; have k1_ := kw1.out; have k2_ := kw2.out
      skip
      go_wp2
      go_roundw
      case rel => exact ⟨k + 1, z + s, by omega, by go_num, rfl, HZ, below_dn CW.out _⟩
      case measure => simp [intOf]; omega
    · obtain rfl : k = S.length := by omega
      obtain rfl : z = W := hz.out.trans HSUM.out
      clear hz HSUM CW HVAL HSB HSL HWB HSP HBS HNN HIF HRW HBI z3 z4
      go_wp2_with fail
      refine (HD2.out _ D.out).mono ?_
      rintro e wc ⟨u, t, ys, ts, rfl, hl, hzl, ht, htl, c⟩
      replace D := Lib.hid (D.out.trans (c.mono D.out.size))
      replace BX := Lib.hid ((c.block w1.heap.size (Array.getElem?_eq_some_iff.1 BX.out).1).trans BX.out)
      replace D1 := Lib.hid (D1.out.trans (c.mono D1.out.size))
      clear c
      clear DS HU HD2
      obtain ⟨la, lc, rfl⟩ := slR_len hl
      obtain ⟨ta, tc, rfl⟩ := slR_len ht
      have HL := Lib.hid hl
      have HTS := Lib.hid ht
      have HZL := Lib.hid hzl
      have HTL := Lib.hid htl
      have HLN : Hid (ys.length ≤ 100) := Lib.hid (zL_len hzl)
      clear hl ht hzl htl
      obtain ⟨wl, hwl⟩ : ∃ x, x = wc := ⟨_, rfl⟩
      rw [← hwl] at HL HTS
      have Dwl : Hid (Below wl.heap.size wl wc) := Lib.hid (by rw [hwl]; exact Below.refl _ _)
      clear hwl
      have HGC := Lib.hid (grp_cost ts ys)
      have HCW := Lib.hid (cost_work (memB ts) ys)
      obtain ⟨CC, hcc⟩ : ∃ CC, CC = totalL (coX (memB ts)) ys := ⟨_, rfl⟩
      rw [← hcc] at HGC HCW
      have HCC := Lib.hid hcc
      clear hcc
      go_wp2_with fail
      refine (implCoalitionCost (.slice la ys.length lc) (.slice ta ts.length tc) ys ts _ (slR_below tCharge_law HL.out Dwl.out) (by have := HZL.out; omega) (slR_below tInt_law HTS.out Dwl.out) (by have := HTL.out; omega)).mono ?_
      rintro e wn ⟨rfl, c⟩
      rw [← HCC.out]
      replace D := Lib.hid (D.out.trans (c.mono D.out.size))
      replace BX := Lib.hid ((c.block w1.heap.size (Array.getElem?_eq_some_iff.1 BX.out).1).trans BX.out)
      replace D1 := Lib.hid (D1.out.trans (c.mono D1.out.size))
      replace Dwl := Lib.hid (Dwl.out.trans (c.mono Dwl.out.size))
      clear c
      rename World => wc
      go_wp2
      go_loopw [11, 12] (fun g i wr => ∃ (k : Nat) (y : Int), k ≤ 4 ∧ i = .int .i64 k ∧ g = .int .i64 y ∧ Hid (y = grpTo ts ys k) ∧ Below wc.heap.size wc wr) (fun _ i _ => 4 - (intOf i).toNat)
      case atStart => exact ⟨0, 0, by omega, rfl, rfl, Lib.hid rfl, Below.refl _ _⟩
      case round =>
        obtain ⟨k, y, hk, rfl, rfl, hy, c⟩ := hrel
        have CW := Lib.hid c
        replace D := Lib.hid (D.out.trans (c.mono D.out.size))
        replace BX := Lib.hid ((c.block w1.heap.size (Array.getElem?_eq_some_iff.1 BX.out).1).trans BX.out)
        replace D1 := Lib.hid (D1.out.trans (c.mono D1.out.size))
        replace Dwl := Lib.hid (Dwl.out.trans (c.mono Dwl.out.size))
        clear c
        generalize wr = wd at *
        have y1 := grpTo_bd2 (ts := ts) HLN.out k
        rw [← hy.out] at y1
        obtain ⟨y2, y3⟩ := y1
        by_cases hlt : k < 4
        · have y4 : y ≤ 30000 := by omega
          clear y3
          have HY := Lib.hid (fun h => grpTo_yes (ts := ts) (l := ys) (k := k) h)
          have HN := Lib.hid (fun h => grpTo_no (ts := ts) (l := ys) (k := k) h)
          have HTB := Lib.hid (tenL_bd (k : Int) ys)
          go_wp2_with fail
          refine (hasL (.slice ta ts.length tc) ts (k : Int) _ (slR_ints (slR_below tInt_law HTS.out Dwl.out)) (by have := HTL.out; omega)).mono ?_
          rintro e wn ⟨rfl, c⟩
          replace CW := Lib.hid (CW.out.trans (c.mono CW.out.size))
          replace D := Lib.hid (D.out.trans (c.mono D.out.size))
          replace BX := Lib.hid ((c.block w1.heap.size (Array.getElem?_eq_some_iff.1 BX.out).1).trans BX.out)
          replace D1 := Lib.hid (D1.out.trans (c.mono D1.out.size))
          replace Dwl := Lib.hid (Dwl.out.trans (c.mono Dwl.out.size))
          clear c
          rename World => we
          by_cases hm : (k : Int) ∈ ts
          · rw [decide_eq_true hm]
            have HZ := Lib.hid (HY.out hm)
            clear hm HY HN
            go_wp2_with fail
            refine (implTenantCharge (k : Int) (.slice la ys.length lc) ys _ (slR_below tCharge_law HL.out Dwl.out) (by have := HZL.out; omega)).mono ?_
            rintro e wf ⟨rfl, c⟩
            replace CW := Lib.hid (CW.out.trans (c.mono CW.out.size))
            clear c
            rw [← hy.out] at HZ
            generalize totalL (tenX (k : Int)) ys = tk at *
            have b1 := HTB.out
            have b2 := HLN.out
            obtain ⟨b3, b4⟩ := b1
            have b5 : tk ≤ 10000 := by omega
            clear b4 hy
            go_wp2
            go_roundw
            case rel => exact ⟨k + 1, y + tk, by omega, by go_num, rfl, Lib.hid HZ.out.symm, CW.out⟩
            case measure => simp [intOf]; omega
          · rw [decide_eq_false hm]
            have HZ := Lib.hid (HN.out hm)
            clear hm HY HN
            rw [← hy.out] at HZ
            clear hy
            go_wp2
            go_roundw
            case rel => exact ⟨k + 1, y, by omega, by go_num, rfl, Lib.hid HZ.out.symm, CW.out⟩
            case measure => simp [intOf]; omega
        · obtain rfl : k = 4 := by omega
          have HG : Hid (y ≤ CC) := Lib.hid (by rw [hy.out]; exact HGC.out)
          clear hy HGC y3 CW
          go_wp2_with fail
          refine (HD3.out _ D.out).mono ?_
          rintro e wc ⟨u2, kk, ms, rfl, hm, hzm, k0, k1, c⟩
          replace D := Lib.hid (D.out.trans (c.mono D.out.size))
          replace BX := Lib.hid ((c.block w1.heap.size (Array.getElem?_eq_some_iff.1 BX.out).1).trans BX.out)
          replace D1 := Lib.hid (D1.out.trans (c.mono D1.out.size))
          replace Dwl := Lib.hid (Dwl.out.trans (c.mono Dwl.out.size))
          clear c
          obtain ⟨ma, mc, rfl⟩ := slR_len hm
          have HM := Lib.hid hm
          have HZM := Lib.hid hzm
          clear hm hzm HD3
          obtain ⟨wm, hwl⟩ : ∃ x, x = wc := ⟨_, rfl⟩
          rw [← hwl] at HM
          have Dwm : Hid (Below wm.heap.size wm wc) := Lib.hid (by rw [hwl]; exact Below.refl _ _)
          clear hwl
          have ld := cell5 BX.out
          go_wp2_with fail
          clear ld
          refine (HC5d.out _ (slR_below tInt_law H2.out D1.out) (slR_below tInt_law H3.out D1.out) (slR_below tInt_law H4.out D1.out) S2.out S3.out S4.out).mono ?_
          rintro e wn ⟨rfl, c⟩
          replace D := Lib.hid (D.out.trans (c.mono D.out.size))
          replace BX := Lib.hid ((c.block w1.heap.size (Array.getElem?_eq_some_iff.1 BX.out).1).trans BX.out)
          replace D1 := Lib.hid (D1.out.trans (c.mono D1.out.size))
          replace Dwl := Lib.hid (Dwl.out.trans (c.mono Dwl.out.size))
          replace Dwm := Lib.hid (Dwm.out.trans (c.mono Dwm.out.size))
          clear c
          rename World => wc
          go_wp2_with fail
          refine (specCoalitionCost (.slice la ys.length lc) ys _ (.slice ta ts.length tc) ts (slR_below tInt_law HTS.out Dwl.out) (by have := HTL.out; omega) (slR_below tCharge_law HL.out Dwl.out) (by have := HZL.out; omega)).mono ?_
          rintro e wn ⟨rfl, c⟩
          replace D := Lib.hid (D.out.trans (c.mono D.out.size))
          replace BX := Lib.hid ((c.block w1.heap.size (Array.getElem?_eq_some_iff.1 BX.out).1).trans BX.out)
          replace D1 := Lib.hid (D1.out.trans (c.mono D1.out.size))
          replace Dwl := Lib.hid (Dwl.out.trans (c.mono Dwl.out.size))
          replace Dwm := Lib.hid (Dwm.out.trans (c.mono Dwm.out.size))
          clear c
          rename World => wc
          rw [← HCC.out]
          have g1 : decide (y ≤ CC) = true := decide_eq_true HG.out
          have g1b : ¬ CC < y := by have := HG.out; omega
          have HT1 := Lib.hid (fun u h hs => implTenantCharge kk (.slice ma ms.length mc) ms u h hs)
          have HT2 := Lib.hid (fun u h hs => specTenantCharge kk (.slice ma ms.length mc) ms u h hs)
          generalize totalL (tenX kk) ms = TK at *
          go_wp2_with fail
          refine (HT1.out _ (slR_below tCharge_law HM.out Dwm.out) (by have := HZM.out; omega)).mono ?_
          rintro e wn ⟨rfl, c⟩
          replace D := Lib.hid (D.out.trans (c.mono D.out.size))
          replace BX := Lib.hid ((c.block w1.heap.size (Array.getElem?_eq_some_iff.1 BX.out).1).trans BX.out)
          replace D1 := Lib.hid (D1.out.trans (c.mono D1.out.size))
          replace Dwl := Lib.hid (Dwl.out.trans (c.mono Dwl.out.size))
          replace Dwm := Lib.hid (Dwm.out.trans (c.mono Dwm.out.size))
          clear c
          rename World => wc
          go_wp2_with fail
          refine (HT2.out _ (slR_below tCharge_law HM.out Dwm.out) (by have := HZM.out; omega)).mono ?_
          rintro e wn ⟨rfl, c⟩
          replace D := Lib.hid (D.out.trans (c.mono D.out.size))
          replace BX := Lib.hid ((c.block w1.heap.size (Array.getElem?_eq_some_iff.1 BX.out).1).trans BX.out)
          replace D1 := Lib.hid (D1.out.trans (c.mono D1.out.size))
          replace Dwl := Lib.hid (Dwl.out.trans (c.mono Dwl.out.size))
          replace Dwm := Lib.hid (Dwm.out.trans (c.mono Dwm.out.size))
          clear c
          rename World => wc
          have HW1 := Lib.hid (fun u h hs => implTotalWork (.slice ma ms.length mc) ms u h hs)
          have HW2 := Lib.hid (fun u h hs => specTotalWork (.slice ma ms.length mc) ms u h hs)
          generalize totalL workX ms = TM at *
          clear HT1 HT2
          go_wp2_with fail
          refine (HW1.out _ (slR_below tCharge_law HM.out Dwm.out) (by have := HZM.out; omega)).mono ?_
          rintro e wn ⟨rfl, c⟩
          replace D := Lib.hid (D.out.trans (c.mono D.out.size))
          replace BX := Lib.hid ((c.block w1.heap.size (Array.getElem?_eq_some_iff.1 BX.out).1).trans BX.out)
          replace D1 := Lib.hid (D1.out.trans (c.mono D1.out.size))
          replace Dwl := Lib.hid (Dwl.out.trans (c.mono Dwl.out.size))
          replace Dwm := Lib.hid (Dwm.out.trans (c.mono Dwm.out.size))
          clear c
          rename World => wc
          go_wp2_with fail
          refine (HW2.out _ (slR_below tCharge_law HM.out Dwm.out) (by have := HZM.out; omega)).mono ?_
          rintro e wn ⟨rfl, c⟩
          replace D := Lib.hid (D.out.trans (c.mono D.out.size))
          replace BX := Lib.hid ((c.block w1.heap.size (Array.getElem?_eq_some_iff.1 BX.out).1).trans BX.out)
          replace D1 := Lib.hid (D1.out.trans (c.mono D1.out.size))
          replace Dwl := Lib.hid (Dwl.out.trans (c.mono Dwl.out.size))
          replace Dwm := Lib.hid (Dwm.out.trans (c.mono Dwm.out.size))
          clear c
          rename World => wc
          have HW3 := Lib.hid (fun u h hs => implTotalWork (.slice la ys.length lc) ys u h hs)
          generalize totalL workX ys = TY at *
          clear HW1 HW2
          go_wp2_with fail
          refine (HW3.out _ (slR_below tCharge_law HL.out Dwl.out) (by have := HZL.out; omega)).mono ?_
          rintro e wn ⟨rfl, c⟩
          replace D := Lib.hid (D.out.trans (c.mono D.out.size))
          replace BX := Lib.hid ((c.block w1.heap.size (Array.getElem?_eq_some_iff.1 BX.out).1).trans BX.out)
          replace D1 := Lib.hid (D1.out.trans (c.mono D1.out.size))
          replace Dwl := Lib.hid (Dwl.out.trans (c.mono Dwl.out.size))
          replace Dwm := Lib.hid (Dwm.out.trans (c.mono Dwm.out.size))
          clear c
          rename World => wc
          have g2 : decide (CC ≤ TY) = true := decide_eq_true HCW.out
          have HO1 := Lib.hid (fun u h hs => implWorstStep (.slice ma ms.length mc) ms u h hs)
          have HO2 := Lib.hid (fun u h hs => specWorstStep (.slice ma ms.length mc) ms u h hs)
          generalize worstL ms = WM at *
          clear HW3
          go_wp2_with fail
          refine (HO1.out _ (slR_below tCharge_law HM.out Dwm.out) (by have := HZM.out; omega)).mono ?_
          rintro e wn ⟨rfl, c⟩
          replace D := Lib.hid (D.out.trans (c.mono D.out.size))
          replace BX := Lib.hid ((c.block w1.heap.size (Array.getElem?_eq_some_iff.1 BX.out).1).trans BX.out)
          replace D1 := Lib.hid (D1.out.trans (c.mono D1.out.size))
          replace Dwl := Lib.hid (Dwl.out.trans (c.mono Dwl.out.size))
          replace Dwm := Lib.hid (Dwm.out.trans (c.mono Dwm.out.size))
          clear c
          rename World => wc
          go_wp2_with fail
          refine (HO2.out _ (slR_below tCharge_law HM.out Dwm.out) (by have := HZM.out; omega)).mono ?_
          rintro e wn ⟨rfl, c⟩
          replace D := Lib.hid (D.out.trans (c.mono D.out.size))
          replace BX := Lib.hid ((c.block w1.heap.size (Array.getElem?_eq_some_iff.1 BX.out).1).trans BX.out)
          replace D1 := Lib.hid (D1.out.trans (c.mono D1.out.size))
          replace Dwl := Lib.hid (Dwl.out.trans (c.mono Dwl.out.size))
          replace Dwm := Lib.hid (Dwm.out.trans (c.mono Dwm.out.size))
          clear c
          rename World => wc
          go_wp2
          go_ret
          exact ⟨rfl, D.out⟩
end Go.Proofs.YtjeaimdnddelpaaDoor
