/-
 Texts of the proof, merged: Cur, Bytes, Draw, Draws, CodeOpen.
-/
import Derived.Test.YtededfficggkaaaDoorRows
import Derived.WalkKit
import Derived.Below
import Derived.Lib.Hide
import Derived.BigQuiet
import Derived.Deep.QuietTactic
import Derived.Laws.BitsAllLaws
import Derived.Outline
import Derived.Laws.BytesArg
import Derived.Laws.IdiomStrings
import Derived.Laws.Concat
import Derived.WalkSpells
import Derived.ProofKit
import Derived.OpenShut
import Derived.Carry
namespace Go.Proofs.YtededfficggkaaaDoor
open Go.RowKit
set_option linter.unusedVariables false
/-- The slice v reads as the bytes xs. -/
def Code (w : World) (v : Value) (xs : List Int) : Prop :=
 (xs = [] ∧ ∃ a cap, v = .slice a 0 cap) ∨ ∃ b off cap, v = .slice (some ⟨b, off, none⟩) xs.length cap ∧ xs.length ≤ cap ∧ b < w.heap.size ∧ ∀ j, j < xs.length → w.cell? ⟨b, off + j, none⟩ = some (.int .u8 (xs.getD j 0))
/-- The cursor in block c over the bytes. -/
structure Cur (w0 : World) (c : Nat) (v : Value) (xs : List Int) (w : World) : Prop where
 code : Code w0 v xs
 small : xs.length ≤ 1048576
 bytes : ∀ x ∈ xs, 0 ≤ x ∧ x ≤ 255
 new : w0.heap.size ≤ c
 cells : ∃ i : Nat, ∃ h : Int, i ≤ xs.length ∧ w.heap[c]? = some (.cells #[v, .int .i64 i, .int .i64 h] 159 (0, 0))
 old : Below w0.heap.size w0 w
theorem and255 (z : Int) : 0 ≤ bits .and .i64 z 255 ∧ bits .and .i64 z 255 ≤ 255 := by
 have h : (BitVec.ofInt 64 z &&& BitVec.ofInt 64 255).toNat ≤ 255 := by
  rw [BitVec.toNat_and]
  exact Nat.le_trans Nat.and_le_right (by decide)
 have e : bits .and .i64 z 255 = IntKind.i64.wrap (((BitVec.ofInt 64 z &&& BitVec.ofInt 64 255).toNat : Nat) : Int) := rfl
 rw [e, IntKind.wrap_i64]
 omega
/-- What one byte leaves. -/
def Drawn (w0 : World) (c : Nat) (v : Value) (xs : List Int) (w : World) (top : Int) (e : Ending) (w' : World) : Prop :=
 ∃ x : Int, 0 ≤ x ∧ x ≤ top ∧ e = .returned (.int .i64 x) ∧ Cur w0 c v xs w' ∧ w.grownBy w' (some c)
theorem grown_set2 {w : World} {c : Nat} {v : Value} {i h : Int} {T : TypeId} (hc : w.heap[c]? = some (.cells #[v, .int .i64 i, .int .i64 h] T (0, 0))) (h' : Int) :
  (w.setCell ⟨c, 2, none⟩ (.int .i64 h')).heap[c]? = some (.cells #[v, .int .i64 i, .int .i64 h'] T (0, 0)) := by
 rw [heap_setCell_same w c 2 _ T _ hc]; rfl
theorem grown_set1 {w : World} {c : Nat} {v : Value} {i h : Int} {T : TypeId} (hc : w.heap[c]? = some (.cells #[v, .int .i64 i, .int .i64 h] T (0, 0))) (i' : Int) :
  (w.setCell ⟨c, 1, none⟩ (.int .i64 i')).heap[c]? = some (.cells #[v, .int .i64 i', .int .i64 h] T (0, 0)) := by
 rw [heap_setCell_same w c 1 _ T _ hc]; rfl
theorem grownBy_setCell (w : World) (c j : Nat) (u : Value) : w.grownBy (w.setCell ⟨c, j, none⟩ u) (some c) :=
 ⟨rfl, rfl, rfl, by simp [World.setCell], fun k _ hk => heap_setCell_other w ⟨c, j, none⟩ k u (fun e => hk (by simp [e]))⟩
theorem below_like {B : Nat} {a w w' : World} (h : Below B a w) (h1 : w'.heap = w.heap) (h2 : w'.os = w.os) (h3 : w'.tape = w.tape) (h4 : w'.output = w.output) : Below B a w' :=
 ⟨h2.trans h.os, h3.trans h.tape, h4.trans h.output, by rw [h1]; exact h.size, fun k hk => by rw [h1]; exact h.block k hk⟩
theorem grown_like {a w w' : World} {r : Option Nat} (h : a.grownBy w r) (h1 : w'.heap = w.heap) (h2 : w'.os = w.os) (h3 : w'.tape = w.tape) (h4 : w'.output = w.output) : a.grownBy w' r :=
 ⟨h2.trans h.os, h3.trans h.tape, h4.trans h.output, by rw [h1]; exact h.size, fun k hk hn => by rw [h1]; exact h.block k hk hn⟩
theorem grown_chain {a b c : World} {r : Option Nat} (h : a.grownBy b r) (k : b.grownBy c r) : a.grownBy c r :=
 ⟨k.os.trans h.os, k.tape.trans h.tape, k.output.trans h.output, Nat.le_trans h.size k.size, fun i hi hne => (k.block i (Nat.lt_of_lt_of_le hi h.size) hne).trans (h.block i hi hne)⟩
set_option maxRecDepth 100000 in
theorem byte_any (w0 : World) (c : Nat) (v : Value) (xs : List Int) (w : World) (hC : Cur w0 c v xs w) :
  Calls Tryd.prog 132 #[.pointer (some ⟨c, 0, none⟩)] w (Drawn w0 c v xs w 255) := by
 obtain ⟨hcode, hsm, hby, hnew, ⟨i, h, hi, hc⟩, hold⟩ := hC
 have c0 := cell_of_row w c 0 _ _ _ hc
 have c1 := cell_of_row w c 1 _ _ _ hc
 have c2 := cell_of_row w c 2 _ _ _ hc
 have f1 := frozen_of_row w c 1 _ _ hc
 have f2 := frozen_of_row w c 2 _ _ hc
 simp at c0 c1 c2
 have HC := Lib.hid hc; clear hc
 by_cases hlt : i < xs.length
 ·
  rcases hcode with ⟨rfl, _⟩ | ⟨b, off, cap, rfl, hcap, hbl, hb⟩
  ·
   simp at hlt
  have hbi := hb i hlt
  have i1 : (0 : Int) ≤ (i : Int) := by omega
  have i2 : (i : Int) < (xs.length : Int) := by omega
  have HB := Lib.hid hb; clear hb
  have hcl := (Array.getElem?_eq_some_iff.1 HC.out).1
  have hcb : w.cell? ⟨b, off + i, none⟩ = some (.int .u8 (xs.getD i 0)) := (hold.cell hbl).trans hbi
  clear hbi
  generalize xs.getD i 0 = y at hcb
  go_enter Tryd.func132, Tryd.ntmps132
  go_wp2
  generalize wrap64 (wrap64 (h * 6364136223846793005) + 1442695040888963407) = g
  have hc2 := grown_set2 HC.out g
  have hg2 := grownBy_setCell w c 2 (.int .i64 g)
  have ho2 := hold.setCell (p := ⟨c, 2, none⟩) hnew (.int .i64 g)
  have hcb2 : (w.setCell ⟨c, 2, none⟩ (.int .i64 g)).cell? ⟨b, off + i, none⟩ = some (.int .u8 y) := by
   rw [World.cell?_of_block (w := w) (hg2.block b (by have := hold.size; omega) (by intro e; simp at e; omega))]; exact hcb
  generalize w.setCell ⟨c, 2, none⟩ (.int .i64 g) = w2 at *
  clear c0 c1 c2 f1 f2 hcb
  have c0 := cell_of_row w2 c 0 _ _ _ hc2
  have c1 := cell_of_row w2 c 1 _ _ _ hc2
  have c2 := cell_of_row w2 c 2 _ _ _ hc2
  have f1 := frozen_of_row w2 c 1 _ _ hc2
  simp at c0 c1 c2
  have HC2 := Lib.hid hc2; clear hc2
  go_quiet (fail)
  go_wp2
  go_quiet (fail)
  go_wp2
  go_quiet (fail)
  go_wp2
  go_ret
  refine ⟨_, (and255 _).1, (and255 _).2, rfl, ⟨Or.inr ⟨b, off, cap, rfl, hcap, hbl, HB.out⟩, hsm, hby, hnew, ⟨i + 1, g, by omega, ?_⟩, ?_⟩, grown_chain hg2 ?_⟩
  ·
   exact grown_set1 HC2.out _
  ·
   exact below_like (Below.setCell (w := w2) ho2 (p := ⟨c, 1, none⟩) hnew (.int .i64 ((i : Int) + 1))) rfl rfl rfl rfl
  ·
   exact grown_like (grownBy_setCell w2 c 1 (.int .i64 ((i : Int) + 1))) rfl rfl rfl rfl
 ·
  go_enter Tryd.func132, Tryd.ntmps132
  go_wp2
  generalize wrap64 (wrap64 (h * 6364136223846793005) + 1442695040888963407) = g
  have hc2 := grown_set2 HC.out g
  have hg2 := grownBy_setCell w c 2 (.int .i64 g)
  have ho2 := hold.setCell (p := ⟨c, 2, none⟩) hnew (.int .i64 g)
  generalize w.setCell ⟨c, 2, none⟩ (.int .i64 g) = w2 at *
  clear c0 c1 c2 f1 f2
  have c0 := cell_of_row w2 c 0 _ _ _ hc2
  have c1 := cell_of_row w2 c 1 _ _ _ hc2
  have c2 := cell_of_row w2 c 2 _ _ _ hc2
  have hlen : ∃ a cap, v = .slice a xs.length cap := by
   rcases hcode with ⟨rfl, a, cap, rfl⟩ | ⟨b, off, cap, rfl, _⟩
   ·
    exact ⟨a, cap, rfl⟩
   ·
    exact ⟨_, cap, rfl⟩
  obtain ⟨a, cap, rfl⟩ := hlen
  simp at c0 c1 c2
  have HC2 := Lib.hid hc2; clear hc2
  go_quiet (fail)
  go_wp2
  go_quiet (fail)
  go_wp2
  go_ret
  exact ⟨_, (and255 _).1, (and255 _).2, rfl, ⟨hcode, hsm, hby, hnew, ⟨i, g, hi, HC2.out⟩, below_like ho2 rfl rfl rfl rfl⟩, grown_like hg2 rfl rfl rfl rfl⟩
end Go.Proofs.YtededfficggkaaaDoor
namespace Go.Proofs.YtededfficggkaaaDoor
open Go.RowKit
end Go.Proofs.YtededfficggkaaaDoor
namespace Go.Proofs.YtededfficggkaaaDoor
open Go.RowKit
set_option linter.unusedVariables false
theorem below_small (w0 : World) (c : Nat) (v : Value) (xs : List Int) (w : World) (hC : Cur w0 c v xs w) (n : Int) (h1 : 1 ≤ n) (h2 : n ≤ 256) :
  Calls Tryd.prog 104 #[.pointer (some ⟨c, 0, none⟩), .int .i64 n] w (Drawn w0 c v xs w (n - 1)) := by
 have hn : (n == 0) = false := by rw [beq_eq_false_iff_ne]; omega
 go_enter Tryd.func104, Tryd.ntmps104
 go_wp2_with (go_at_call 132; refine (byte_any _ _ _ _ _ (by assumption)).mono ?_; rintro e w1 ⟨x, x0, x1, rfl, hC1, hg1⟩)
 go_ret
 exact ⟨_, Int.emod_nonneg _ (by omega), by have := Int.emod_lt_of_pos x (show 0 < n by omega); omega, rfl, hC1, hg1⟩
theorem below_large (w0 : World) (c : Nat) (v : Value) (xs : List Int) (w : World) (hC : Cur w0 c v xs w) (n : Int) (h1 : 256 < n) (h2 : n ≤ 1000000000) :
  Calls Tryd.prog 104 #[.pointer (some ⟨c, 0, none⟩), .int .i64 n] w (Drawn w0 c v xs w (n - 1)) := by
 have hn : (n == 0) = false := by rw [beq_eq_false_iff_ne]; omega
 go_enter Tryd.func104, Tryd.ntmps104
 go_wp2_with fail
 refine (byte_any _ _ _ _ _ hC).mono ?_
 rintro e w1 ⟨x, x0, x1, rfl, hC1, hg1⟩
 go_wp2_with fail
 refine (byte_any _ _ _ _ _ hC1).mono ?_
 rintro e w2 ⟨y, y0, y1, rfl, hC2, hg2⟩
 go_wp2_with fail
 refine (byte_any _ _ _ _ _ hC2).mono ?_
 rintro e w3 ⟨z, z0, z1, rfl, hC3, hg3⟩
 go_wp2_with fail
 refine (byte_any _ _ _ _ _ hC3).mono ?_
 rintro e w4 ⟨t, t0, t1, rfl, hC4, hg4⟩
 go_wp2
 go_ret
 exact ⟨_, Int.emod_nonneg _ (by omega), by have := Int.emod_lt_of_pos (x * 16777216 + y * 65536 + z * 256 + t) (show 0 < n by omega); omega, rfl, hC4, grown_chain hg1 (grown_chain hg2 (grown_chain hg3 hg4))⟩
theorem below_any (w0 : World) (c : Nat) (v : Value) (xs : List Int) (w : World) (hC : Cur w0 c v xs w) (n : Int) (h1 : 1 ≤ n) (h2 : n ≤ 1000000000) :
  Calls Tryd.prog 104 #[.pointer (some ⟨c, 0, none⟩), .int .i64 n] w (Drawn w0 c v xs w (n - 1)) := by
 by_cases h : n ≤ 256
 ·
  exact below_small w0 c v xs w hC n h1 h
 ·
  exact below_large w0 c v xs w hC n (by omega) h2
/-- A number between lo and hi is drawn. -/
def DrawnIn (w0 : World) (c : Nat) (v : Value) (xs : List Int) (w : World) (lo hi : Int) (e : Ending) (w' : World) : Prop :=
 ∃ x : Int, lo ≤ x ∧ x ≤ hi ∧ e = .returned (.int .i64 x) ∧ Cur w0 c v xs w' ∧ w.grownBy w' (some c)
theorem pick_any (w0 : World) (c : Nat) (v : Value) (xs : List Int) (w : World) (hC : Cur w0 c v xs w) (g : Nat) (L : List Int) (lo hi : Int) (hL : ∀ x ∈ L, lo ≤ x ∧ x ≤ hi) (h1 : 1 ≤ L.length) (h2 : L.length ≤ 256)
  (hg : w.heap[g]? = some (.cells (L.map (Value.int .i64)).toArray 3 (0, 0))) (hne : g ≠ c) :
  Calls Tryd.prog 106 #[.pointer (some ⟨c, 0, none⟩), .slice (some ⟨g, 0, none⟩) L.length L.length] w (DrawnIn w0 c v xs w lo hi) := by
 have HL := Lib.hid hL; clear hL
 have HG := Lib.hid hg; clear hg
 go_enter Tryd.func106, Tryd.ntmps106
 go_wp2_with fail
 refine (below_any w0 c v xs _ hC L.length (by omega) (by omega)).mono ?_
 rintro e w1 ⟨x, x0, x1, rfl, hC1, hg1⟩
 obtain ⟨k, rfl⟩ := Int.eq_ofNat_of_zero_le x0
 have hk : k < L.length := by omega
 have hcell : w1.cell? ⟨g, k, none⟩ = some (.int .i64 L[k]) := by
  have hgl := (Array.getElem?_eq_some_iff.1 HG.out).1
  have := cell_of_row w1 g k _ _ _ ((hg1.block g hgl (by intro e; simp at e; exact hne e)).trans HG.out)
  rw [this]; simp [hk]
 have hm := HL.out L[k] (List.getElem_mem hk)
 obtain ⟨m0, m1⟩ := hm
 generalize L[k] = y at hcell m0 m1
 go_wp2
 go_ret
 exact ⟨y, m0, m1, rfl, hC1, hg1⟩
theorem cur_alloc {w0 : World} {c : Nat} {v : Value} {xs : List Int} {w : World} (h : Cur w0 c v xs w) (o : Obj) : Cur w0 c v xs (w.alloc o) := by
 obtain ⟨h1, h2, h3, h4, ⟨i, hh, h5, h6⟩, h7⟩ := h
 refine ⟨h1, h2, h3, h4, ⟨i, hh, h5, ?_⟩, h7.alloc h7.size o⟩
 rw [Below.heap_alloc w o c (Array.getElem?_eq_some_iff.1 h6).1]; exact h6
theorem cur_lt {w0 : World} {c : Nat} {v : Value} {xs : List Int} {w : World} (h : Cur w0 c v xs w) : c < w.heap.size := by
 obtain ⟨_, _, _, _, ⟨i, hh, h5, h6⟩, _⟩ := h
 exact (Array.getElem?_eq_some_iff.1 h6).1
theorem cur_below {w0 : World} {c : Nat} {v : Value} {xs : List Int} {w w' : World} {B : Nat} (h : Cur w0 c v xs w) (hc : c < B) (h0 : w0.heap.size ≤ B) (hb : Below B w w') : Cur w0 c v xs w' := by
 obtain ⟨h1, h2, h3, h4, ⟨i, hh, h5, h6⟩, h7⟩ := h
 exact ⟨h1, h2, h3, h4, ⟨i, hh, h5, (hb.block c hc).trans h6⟩, h7.trans (hb.mono h0)⟩
theorem grown_below {a b b' : World} {c : Nat} (h : a.grownBy b (some c)) (hb : Below a.heap.size b b') : a.grownBy b' (some c) :=
 ⟨hb.os.trans h.os, hb.tape.trans h.tape, hb.output.trans h.output, Nat.le_trans h.size hb.size, fun k hk hn => (hb.block k hk).trans (h.block k hk hn)⟩
end Go.Proofs.YtededfficggkaaaDoor
namespace Go.Proofs.YtededfficggkaaaDoor
open Go.RowKit
set_option linter.unusedVariables false
theorem code_below {W w : World} {v : Value} {xs : List Int} (h : Code W v xs) (hb : Below W.heap.size W w) : Code w v xs := by
 rcases h with h | ⟨b, off, cap, h1, h2, h3, h4⟩
 ·
  exact Or.inl h
 ·
  exact Or.inr ⟨b, off, cap, h1, h2, Nat.lt_of_lt_of_le h3 hb.size, fun j hj => (hb.cell (p := ⟨b, off + j, none⟩) h3).trans (h4 j hj)⟩
/-- A new cursor. -/
def NewCur (v : Value) (xs : List Int) (w : World) (e : Ending) (w' : World) : Prop :=
 e = .returned (.pointer (some ⟨w.heap.size, 0, none⟩)) ∧ Cur w w.heap.size v xs w'
set_option maxRecDepth 100000 in
theorem new_any (v : Value) (xs : List Int) (w : World) (hcode : Code w v xs) (hsm : xs.length ≤ 1048576) (hby : ∀ x ∈ xs, 0 ≤ x ∧ x ≤ 255) :
  Calls Tryd.prog 77 #[v] w (NewCur v xs w) := by
 have HCODE := Lib.hid hcode
 have HBY := Lib.hid hby; clear hby
 rcases hcode with ⟨rfl, ao, cap, rfl⟩ | ⟨b, off, cap, rfl, hcap, hbl, hb⟩
 ·
  go_enter Tryd.func77, Tryd.ntmps77
  go_wp2
  go_loop [3, 4] (fun h i => ∃ z : Int, i = .int .i64 0 ∧ h = .int .i64 z) (fun _ _ => 0)
  case atStart => exact ⟨_, rfl, rfl⟩
  case round =>
   obtain ⟨z, rfl, rfl⟩ := hrel
   go_wp2
   go_ret
   exact ⟨rfl, HCODE.out, hsm, HBY.out, Nat.le_refl _, ⟨0, _, Nat.le_refl _, heap_alloc_new w _⟩, (Below.refl _ _).alloc (Nat.le_refl _) _⟩
 ·
  have HB := Lib.hid hb; clear hb
  go_enter Tryd.func77, Tryd.ntmps77
  go_wp2
  go_loop [3, 4] (fun h i => ∃ k : Nat, ∃ z : Int, k ≤ xs.length ∧ k ≤ 4000 ∧ i = .int .i64 k ∧ h = .int .i64 z) (fun _ i => 4000 - (intOf i).toNat)
  case atStart => exact ⟨0, _, by omega, by omega, rfl, rfl⟩
  case round =>
   obtain ⟨k, z, hk, hk4, rfl, rfl⟩ := hrel
   by_cases hlt : k < xs.length
   ·
    by_cases h4 : k < 4000
    ·
     have hcell := HB.out k hlt
     have i1 : (0 : Int) ≤ (k : Int) := by omega
     have i2 : (k : Int) < (xs.length : Int) := by omega
     generalize xs.getD k 0 = y at hcell
     go_wp2
     go_round
     case rel => exact ⟨k + 1, _, by omega, by omega, by go_num, rfl⟩
     case measure => simp [intOf]; omega
    ·
     go_wp2
     go_ret
     exact ⟨rfl, HCODE.out, hsm, HBY.out, Nat.le_refl _, ⟨0, _, Nat.zero_le _, heap_alloc_new w _⟩, (Below.refl _ _).alloc (Nat.le_refl _) _⟩
   ·
    have hge : ¬ ((k : Int) < (xs.length : Int)) := by omega
    go_wp2
    go_ret
    exact ⟨rfl, HCODE.out, hsm, HBY.out, Nat.le_refl _, ⟨0, _, Nat.zero_le _, heap_alloc_new w _⟩, (Below.refl _ _).alloc (Nat.le_refl _) _⟩
end Go.Proofs.YtededfficggkaaaDoor
namespace Go.Proofs.YtededfficggkaaaDoor
open Go.ChangeShapes Go.WideShapes Go.ChangeAt Go.WideMaps Go.WideElems Go.RowKit
set_option linter.unusedVariables false
theorem cU8c : Tryd.prog.cellsOf 5 = 1 := by kernel_rfl
theorem laidOut : laidOutB Tryd.prog = true := by kernel_rfl
theorem recCode : Tryd.prog.readableRec 22 = true := by kernel_rfl
theorem rowCode : 22 < Tryd.prog.types.size := of_decide_eq_true (by kernel_rfl)
set_option maxRecDepth 100000 in
/-- A slice of bytes that came in reads as bytes. -/
theorem code_open {H : Type} {enc : TypeId × Value → H} {W : World} {r : Reach} {b0 : Nat} {v : Value} {d : DataW H} {p : List MemPlace} (hval : Value.okWide Tryd.prog W r b0 22 v) (h : DataW.Trod enc Tryd.prog W 0 (fun _ => true) true 22 v d p) :
  ∃ a xs cap, v = .slice a xs.length cap ∧ Code W v xs ∧ ∀ x ∈ xs, 0 ≤ x ∧ x ≤ 255 := by
 obtain ⟨a, len, cap, rfl⟩ := okWide_slice Tryd.underlying22 hval
 obtain ⟨fuel, hf⟩ := h
 rcases open_ints Tryd.underlying22 Tryd.underlying5 cU8c hf with ⟨hcs, _⟩ | ⟨a', len', cap', zs, hcs, _, hl, hm, hz, _, hcell, hwz⟩
 ·
  simp [Value.cells] at hcs
  obtain ⟨rfl, rfl, rfl⟩ := hcs
  exact ⟨none, [], 0, rfl, Or.inl ⟨rfl, none, 0, rfl⟩, by simp⟩
 ·
  simp [Value.cells] at hcs
  obtain ⟨rfl, rfl, rfl⟩ := hcs
  rw [if_pos rfl] at hz
  have hb : ∀ x ∈ zs.take len, 0 ≤ x ∧ x ≤ 255 := fun x hx => by
   have h1 := hwz x (List.mem_of_mem_take hx)
   have e0 : IntKind.u8.min = 0 := by decide
   have e1 : IntKind.u8.max = 255 := by decide
   simp [Lit.wf] at h1; omega
  have hlen : (zs.take len).length = len := by rw [List.length_take]; omega
  refine ⟨some a', zs.take len, cap, by rw [hlen], ?_, hb⟩
  by_cases h0 : len = 0
  ·
   subst h0
   exact Or.inl ⟨rfl, some a', cap, rfl⟩
  ·
   obtain ⟨b, off, rfl, hc⟩ := ints_at hcell (by omega)
   refine Or.inr ⟨b, off, cap, by rw [hlen], by omega, ?_, ?_⟩
   ·
    exact World.block_lt_of_cell? W _ (hc 0 (by omega))
   ·
    intro j hj
    rw [hlen] at hj
    rw [hc j (by omega)]
    simp [List.getD, hj]
end Go.Proofs.YtededfficggkaaaDoor
