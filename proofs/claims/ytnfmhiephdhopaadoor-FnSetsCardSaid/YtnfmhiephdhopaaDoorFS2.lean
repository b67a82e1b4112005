/-
  Texts of the proof, merged: ParSetImpl, Cur, Draw, Draws, SetDraw, SetsLaw, CodeOpen.
-/
import Derived.Test.YtnfmhiephdhopaaDoorFS1
import Derived.Test.YtnfmhiephdhopaaDoorRows
import Derived.WalkKit
import Derived.Below
import Derived.Lib.Hide
import Derived.BigQuiet
import Derived.Deep.QuietTactic
import Derived.Laws.BitsAllLaws
import Derived.Outline
import Derived.WalkSpells
import Derived.ProofKit
import Derived.OpenShut
import Derived.Carry
namespace Go.Proofs.YtnfmhiephdhopaaDoor
open Go.RowKit
set_option linter.unusedVariables false
theorem ownsN_base' {w : World} {B C : Nat} {v : Value} {xs : List Int} (h : OwnsN w C v xs) (hb : B ≤ C) : OwnsN w B v xs := by
  refine ⟨h.1, ?_⟩
  rcases h.2 with hn | ⟨g, cap, cur, e, hb', rest⟩
  · exact .inl hn
  · exact .inr ⟨g, cap, cur, e, Nat.le_trans hb hb', rest⟩
theorem mskAns_cases (l : List UInt8) : (mskAns l = .tuple #[.int .u32 0, .bool false] ∧ parSet l = ([], false)) ∨
    ∃ m : Nat, mskAns l = .tuple #[.int .u32 (m : Nat), .bool true] ∧ m < 16777216 ∧ (fmtRuns (memL m) = l → parSet l = (memL m, true)) ∧ (¬ fmtRuns (memL m) = l → parSet l = ([], false)) := by
  by_cases h : l = [110, 111, 110, 101]
  · refine Or.inr ⟨0, by unfold mskAns; rw [if_pos h]; rfl, by omega, fun _ => ?_, fun g => ?_⟩
    · rw [memL_zero]; exact parSet_none h
    · exact absurd (by rw [memL_zero, h]; rfl) g
  · rcases parSet_mask h with ⟨h1, h2⟩ | ⟨m, h1, h2, h3, h4⟩
    · exact Or.inl ⟨mskAns_no h h1, h2⟩
    · exact Or.inr ⟨m, mskAns_yes h h1, h2, h3, h4⟩
set_option maxHeartbeats 4000000 in
set_option maxRecDepth 100000 in
theorem implParSet (l : List UInt8) (w : World) (hl : l.length ≤ 1048576) (hT : Tab w) (hZ : TabZ w) :
    Calls Tryd.prog 17 #[.string (strB l)] w fun e w' => ∃ v, e = .returned (.tuple #[v, .bool (parSet l).2]) ∧ OwnsN w' w.heap.size v (parSet l).1 ∧ Below w.heap.size w w' := by
  have HM := Lib.hid (implParseMask l w hl hT)
  have HZ := Lib.hid hZ
  clear hT hZ hl
  rcases mskAns_cases l with ⟨h1, h2⟩ | ⟨m, h1, h2, h3, h4⟩
  · have HP := Lib.hid h2
    rw [h1] at HM
    clear h1 h2
    go_enter Tryd.func17, Tryd.ntmps17
    go_wp2_with fail
    refine HM.out.mono ?_
    rintro e w1 ⟨rfl, b1⟩
    go_wp2
    go_ret2
    exact ⟨_, ret_ps HP.out, own_ps HP.out (ownsN_nil _ _), b1⟩
  · have HF := Lib.hid (implFormat m h2)
    rw [h1] at HM
    by_cases he : fmtRuns (memL m) = l
    · have HP := Lib.hid (h3 he)
      have heq : ((strB (fmtRuns (memL m))).toList == (strB l).toList) = true := by rw [he]; simp
      have HE := Lib.hid heq
      have HMEM := Lib.hid (implMembers m)
      have HLT := Lib.hid h2
      clear h1 h2 h3 h4 he heq
      generalize strB (fmtRuns (memL m)) = y at *
      go_enter Tryd.func17, Tryd.ntmps17
      go_wp2_with fail
      refine HM.out.mono ?_
      rintro e w1 ⟨rfl, b1⟩
      go_wp2_with fail
      refine (HF.out _ (HZ.out.on b1)).mono ?_
      rintro e w2 ⟨rfl, b2⟩
      have b3 := b1.trans (b2.mono b1.size)
      have heq := HE.out
      clear b1 b2
      go_wp2_with fail
      refine (HMEM.out _ HLT.out).mono ?_
      rintro e w4 ⟨v, rfl, o4, b4⟩
      have b5 := b3.trans (b4.mono b3.size)
      have o5 := ownsN_base' o4 b3.size
      clear b3 b4 o4 heq
      go_wp2
      go_ret2
      exact ⟨_, ret_ps HP.out, own_ps HP.out o5, b5⟩
    · have HP := Lib.hid (h4 he)
      have heq : ((strB (fmtRuns (memL m))).toList == (strB l).toList) = false := by rw [beq_eq_false_iff_ne, strB_toList, strB_toList]; exact he
      have HE := Lib.hid heq
      clear h1 h2 h3 h4 he heq
      generalize strB (fmtRuns (memL m)) = y at *
      go_enter Tryd.func17, Tryd.ntmps17
      go_wp2_with fail
      refine HM.out.mono ?_
      rintro e w1 ⟨rfl, b1⟩
      go_wp2_with fail
      refine (HF.out _ (HZ.out.on b1)).mono ?_
      rintro e w2 ⟨rfl, b2⟩
      have b3 := b1.trans (b2.mono b1.size)
      have heq := HE.out
      clear b1 b2
      go_wp2
      go_ret2
      exact ⟨_, ret_ps HP.out, own_ps HP.out (ownsN_nil _ _), b3⟩
end Go.Proofs.YtnfmhiephdhopaaDoor
namespace Go.Proofs.YtnfmhiephdhopaaDoor
open Go.RowKit
set_option linter.unusedVariables false
/-- The slice v reads as the bytes xs. -/
def Code (w : World) (v : Value) (xs : List Int) : Prop :=
  (xs = [] ∧ ∃ a cap, v = .slice a 0 cap) ∨ ∃ b off cap, v = .slice (some ⟨b, off, none⟩) xs.length cap ∧ xs.length ≤ cap ∧ b < w.heap.size ∧ ∀ j, j < xs.length → w.cell? ⟨b, off + j, none⟩ = some (.int .u8 (xs.getD j 0))
/-- The cursor in block c over the bytes. -/
structure Cur (w0 : World) (c : Nat) (v : Value) (xs : List Int) (w : World) : Prop where
  code : Code w0 v xs
  small : xs.length ≤ 1048576
  bytes : ∀ x ∈ xs, 0 ≤ x ∧ x ≤ 255
  new : w0.heap.size ≤ c
  cells : ∃ i : Nat, ∃ h : Int, i ≤ xs.length ∧ w.heap[c]? = some (.cells #[v, .int .i64 i, .int .i64 h] 66 (0, 0))
  old : Below w0.heap.size w0 w
theorem and255 (z : Int) : 0 ≤ bits .and .i64 z 255 ∧ bits .and .i64 z 255 ≤ 255 := by
  have h : (BitVec.ofInt 64 z &&& BitVec.ofInt 64 255).toNat ≤ 255 := by
    rw [BitVec.toNat_and]
    exact Nat.le_trans Nat.and_le_right (by decide)
  have e : bits .and .i64 z 255 = IntKind.i64.wrap (((BitVec.ofInt 64 z &&& BitVec.ofInt 64 255).toNat : Nat) : Int) := rfl
  rw [e, IntKind.wrap_i64]
  omega
/-- What one byte leaves. -/
def Drawn (w0 : World) (c : Nat) (v : Value) (xs : List Int) (w : World) (top : Int) (e : Ending) (w' : World) : Prop :=
  ∃ x : Int, 0 ≤ x ∧ x ≤ top ∧ e = .returned (.int .i64 x) ∧ Cur w0 c v xs w' ∧ w.grownBy w' (some c)
theorem grown_set2 {w : World} {c : Nat} {v : Value} {i h : Int} {T : TypeId} (hc : w.heap[c]? = some (.cells #[v, .int .i64 i, .int .i64 h] T (0, 0))) (h' : Int) :
    (w.setCell ⟨c, 2, none⟩ (.int .i64 h')).heap[c]? = some (.cells #[v, .int .i64 i, .int .i64 h'] T (0, 0)) := by
  rw [heap_setCell_same w c 2 _ T _ hc]; rfl
theorem grown_set1 {w : World} {c : Nat} {v : Value} {i h : Int} {T : TypeId} (hc : w.heap[c]? = some (.cells #[v, .int .i64 i, .int .i64 h] T (0, 0))) (i' : Int) :
    (w.setCell ⟨c, 1, none⟩ (.int .i64 i')).heap[c]? = some (.cells #[v, .int .i64 i', .int .i64 h] T (0, 0)) := by
  rw [heap_setCell_same w c 1 _ T _ hc]; rfl
theorem grownBy_setCell (w : World) (c j : Nat) (u : Value) : w.grownBy (w.setCell ⟨c, j, none⟩ u) (some c) :=
  ⟨rfl, rfl, rfl, by simp [World.setCell], fun k _ hk => heap_setCell_other w ⟨c, j, none⟩ k u (fun e => hk (by simp [e]))⟩
theorem below_like {B : Nat} {a w w' : World} (h : Below B a w) (h1 : w'.heap = w.heap) (h2 : w'.os = w.os) (h3 : w'.tape = w.tape) (h4 : w'.output = w.output) : Below B a w' :=
  ⟨h2.trans h.os, h3.trans h.tape, h4.trans h.output, by rw [h1]; exact h.size, fun k hk => by rw [h1]; exact h.block k hk⟩
theorem grown_like {a w w' : World} {r : Option Nat} (h : a.grownBy w r) (h1 : w'.heap = w.heap) (h2 : w'.os = w.os) (h3 : w'.tape = w.tape) (h4 : w'.output = w.output) : a.grownBy w' r :=
  ⟨h2.trans h.os, h3.trans h.tape, h4.trans h.output, by rw [h1]; exact h.size, fun k hk hn => by rw [h1]; exact h.block k hk hn⟩
theorem grown_chain {a b c : World} {r : Option Nat} (h : a.grownBy b r) (k : b.grownBy c r) : a.grownBy c r :=
  ⟨k.os.trans h.os, k.tape.trans h.tape, k.output.trans h.output, Nat.le_trans h.size k.size, fun i hi hne => (k.block i (Nat.lt_of_lt_of_le hi h.size) hne).trans (h.block i hi hne)⟩
set_option maxRecDepth 100000 in
theorem byte_any (w0 : World) (c : Nat) (v : Value) (xs : List Int) (w : World) (hC : Cur w0 c v xs w) :
    Calls Tryd.prog 71 #[.pointer (some ⟨c, 0, none⟩)] w (Drawn w0 c v xs w 255) := by
  obtain ⟨hcode, hsm, hby, hnew, ⟨i, h, hi, hc⟩, hold⟩ := hC
  have c0 := cell_of_row w c 0 _ _ _ hc
  have c1 := cell_of_row w c 1 _ _ _ hc
  have c2 := cell_of_row w c 2 _ _ _ hc
  have f1 := frozen_of_row w c 1 _ _ hc
  have f2 := frozen_of_row w c 2 _ _ hc
  simp at c0 c1 c2
  have HC := Lib.hid hc; clear hc
  by_cases hlt : i < xs.length
  · rcases hcode with ⟨rfl, _⟩ | ⟨b, off, cap, rfl, hcap, hbl, hb⟩
    · simp at hlt
    have hbi := hb i hlt
    have i1 : (0 : Int) ≤ (i : Int) := by omega
    have i2 : (i : Int) < (xs.length : Int) := by omega
    have HB := Lib.hid hb; clear hb
    have hcl := (Array.getElem?_eq_some_iff.1 HC.out).1
    have hcb : w.cell? ⟨b, off + i, none⟩ = some (.int .u8 (xs.getD i 0)) := (hold.cell hbl).trans hbi
    clear hbi
    generalize xs.getD i 0 = y at hcb
    go_enter Tryd.func71, Tryd.ntmps71
    go_wp2
    generalize wrap64 (wrap64 (h * 6364136223846793005) + 1442695040888963407) = g
    have hc2 := grown_set2 HC.out g
    have hg2 := grownBy_setCell w c 2 (.int .i64 g)
    have ho2 := hold.setCell (p := ⟨c, 2, none⟩) hnew (.int .i64 g)
    have hcb2 : (w.setCell ⟨c, 2, none⟩ (.int .i64 g)).cell? ⟨b, off + i, none⟩ = some (.int .u8 y) := by
      rw [World.cell?_of_block (w := w) (hg2.block b (by have := hold.size; omega) (by intro e; simp at e; omega))]; exact hcb
    generalize w.setCell ⟨c, 2, none⟩ (.int .i64 g) = w2 at *
    clear c0 c1 c2 f1 f2 hcb
    have c0 := cell_of_row w2 c 0 _ _ _ hc2
    have c1 := cell_of_row w2 c 1 _ _ _ hc2
    have c2 := cell_of_row w2 c 2 _ _ _ hc2
    have f1 := frozen_of_row w2 c 1 _ _ hc2
    simp at c0 c1 c2
    have HC2 := Lib.hid hc2; clear hc2
    go_quiet (fail)
    go_wp2
    go_quiet (fail)
    go_wp2
    go_quiet (fail)
    go_wp2
    go_ret
    refine ⟨_, (and255 _).1, (and255 _).2, rfl, ⟨Or.inr ⟨b, off, cap, rfl, hcap, hbl, HB.out⟩, hsm, hby, hnew, ⟨i + 1, g, by omega, ?_⟩, ?_⟩, grown_chain hg2 ?_⟩
    · exact grown_set1 HC2.out _
    · exact below_like (Below.setCell (w := w2) ho2 (p := ⟨c, 1, none⟩) hnew (.int .i64 ((i : Int) + 1))) rfl rfl rfl rfl
    · exact grown_like (grownBy_setCell w2 c 1 (.int .i64 ((i : Int) + 1))) rfl rfl rfl rfl
  · go_enter Tryd.func71, Tryd.ntmps71
    go_wp2
    generalize wrap64 (wrap64 (h * 6364136223846793005) + 1442695040888963407) = g
    have hc2 := grown_set2 HC.out g
    have hg2 := grownBy_setCell w c 2 (.int .i64 g)
    have ho2 := hold.setCell (p := ⟨c, 2, none⟩) hnew (.int .i64 g)
    generalize w.setCell ⟨c, 2, none⟩ (.int .i64 g) = w2 at *
    clear c0 c1 c2 f1 f2
    have c0 := cell_of_row w2 c 0 _ _ _ hc2
    have c1 := cell_of_row w2 c 1 _ _ _ hc2
    have c2 := cell_of_row w2 c 2 _ _ _ hc2
    have hlen : ∃ a cap, v = .slice a xs.length cap := by
      rcases hcode with ⟨rfl, a, cap, rfl⟩ | ⟨b, off, cap, rfl, _⟩
      · exact ⟨a, cap, rfl⟩
      · exact ⟨_, cap, rfl⟩
    obtain ⟨a, cap, rfl⟩ := hlen
    simp at c0 c1 c2
    have HC2 := Lib.hid hc2; clear hc2
    go_quiet (fail)
    go_wp2
    go_quiet (fail)
    go_wp2
    go_ret
    exact ⟨_, (and255 _).1, (and255 _).2, rfl, ⟨hcode, hsm, hby, hnew, ⟨i, g, hi, HC2.out⟩, below_like ho2 rfl rfl rfl rfl⟩, grown_like hg2 rfl rfl rfl rfl⟩
end Go.Proofs.YtnfmhiephdhopaaDoor
namespace Go.Proofs.YtnfmhiephdhopaaDoor
open Go.RowKit
set_option linter.unusedVariables false
theorem below_small (w0 : World) (c : Nat) (v : Value) (xs : List Int) (w : World) (hC : Cur w0 c v xs w) (n : Int) (h1 : 1 ≤ n) (h2 : n ≤ 256) :
    Calls Tryd.prog 61 #[.pointer (some ⟨c, 0, none⟩), .int .i64 n] w (Drawn w0 c v xs w (n - 1)) := by
  have hn : (n == 0) = false := by rw [beq_eq_false_iff_ne]; omega
  go_enter Tryd.func61, Tryd.ntmps61
  go_wp2_with (go_at_call 71; refine (byte_any _ _ _ _ _ (by assumption)).mono ?_; rintro e w1 ⟨x, x0, x1, rfl, hC1, hg1⟩)
  go_ret
  exact ⟨_, Int.emod_nonneg _ (by omega), by have := Int.emod_lt_of_pos x (show 0 < n by omega); omega, rfl, hC1, hg1⟩
theorem below_large (w0 : World) (c : Nat) (v : Value) (xs : List Int) (w : World) (hC : Cur w0 c v xs w) (n : Int) (h1 : 256 < n) (h2 : n ≤ 1000000000) :
    Calls Tryd.prog 61 #[.pointer (some ⟨c, 0, none⟩), .int .i64 n] w (Drawn w0 c v xs w (n - 1)) := by
  have hn : (n == 0) = false := by rw [beq_eq_false_iff_ne]; omega
  go_enter Tryd.func61, Tryd.ntmps61
  go_wp2_with fail
  refine (byte_any _ _ _ _ _ hC).mono ?_
  rintro e w1 ⟨x, x0, x1, rfl, hC1, hg1⟩
  go_wp2_with fail
  refine (byte_any _ _ _ _ _ hC1).mono ?_
  rintro e w2 ⟨y, y0, y1, rfl, hC2, hg2⟩
  go_wp2_with fail
  refine (byte_any _ _ _ _ _ hC2).mono ?_
  rintro e w3 ⟨z, z0, z1, rfl, hC3, hg3⟩
  go_wp2_with fail
  refine (byte_any _ _ _ _ _ hC3).mono ?_
  rintro e w4 ⟨t, t0, t1, rfl, hC4, hg4⟩
  go_wp2
  go_ret
  exact ⟨_, Int.emod_nonneg _ (by omega), by have := Int.emod_lt_of_pos (x * 16777216 + y * 65536 + z * 256 + t) (show 0 < n by omega); omega, rfl, hC4, grown_chain hg1 (grown_chain hg2 (grown_chain hg3 hg4))⟩
theorem below_any (w0 : World) (c : Nat) (v : Value) (xs : List Int) (w : World) (hC : Cur w0 c v xs w) (n : Int) (h1 : 1 ≤ n) (h2 : n ≤ 1000000000) :
    Calls Tryd.prog 61 #[.pointer (some ⟨c, 0, none⟩), .int .i64 n] w (Drawn w0 c v xs w (n - 1)) := by
  by_cases h : n ≤ 256
  · exact below_small w0 c v xs w hC n h1 h
  · exact below_large w0 c v xs w hC n (by omega) h2
/-- A number between lo and hi is drawn. -/
def DrawnIn (w0 : World) (c : Nat) (v : Value) (xs : List Int) (w : World) (lo hi : Int) (e : Ending) (w' : World) : Prop :=
  ∃ x : Int, lo ≤ x ∧ x ≤ hi ∧ e = .returned (.int .i64 x) ∧ Cur w0 c v xs w' ∧ w.grownBy w' (some c)
theorem pick_any (w0 : World) (c : Nat) (v : Value) (xs : List Int) (w : World) (hC : Cur w0 c v xs w) (g : Nat) (L : List Int) (lo hi : Int) (hL : ∀ x ∈ L, lo ≤ x ∧ x ≤ hi) (h1 : 1 ≤ L.length) (h2 : L.length ≤ 256)
    (hg : w.heap[g]? = some (.cells (L.map (Value.int .i64)).toArray 3 (0, 0))) (hne : g ≠ c) :
    Calls Tryd.prog 51 #[.pointer (some ⟨c, 0, none⟩), .slice (some ⟨g, 0, none⟩) L.length L.length] w (DrawnIn w0 c v xs w lo hi) := by
  have HL := Lib.hid hL; clear hL
  have HG := Lib.hid hg; clear hg
  go_enter Tryd.func51, Tryd.ntmps51
  go_wp2_with fail
  refine (below_any w0 c v xs _ hC L.length (by omega) (by omega)).mono ?_
  rintro e w1 ⟨x, x0, x1, rfl, hC1, hg1⟩
  obtain ⟨k, rfl⟩ := Int.eq_ofNat_of_zero_le x0
  have hk : k < L.length := by omega
  have hcell : w1.cell? ⟨g, k, none⟩ = some (.int .i64 L[k]) := by
    have hgl := (Array.getElem?_eq_some_iff.1 HG.out).1
    have := cell_of_row w1 g k _ _ _ ((hg1.block g hgl (by intro e; simp at e; exact hne e)).trans HG.out)
    rw [this]; simp [hk]
  have hm := HL.out L[k] (List.getElem_mem hk)
  obtain ⟨m0, m1⟩ := hm
  generalize L[k] = y at hcell m0 m1
  go_wp2
  go_ret
  exact ⟨y, m0, m1, rfl, hC1, hg1⟩
theorem cur_alloc {w0 : World} {c : Nat} {v : Value} {xs : List Int} {w : World} (h : Cur w0 c v xs w) (o : Obj) : Cur w0 c v xs (w.alloc o) := by
  obtain ⟨h1, h2, h3, h4, ⟨i, hh, h5, h6⟩, h7⟩ := h
  refine ⟨h1, h2, h3, h4, ⟨i, hh, h5, ?_⟩, h7.alloc h7.size o⟩
  rw [Below.heap_alloc w o c (Array.getElem?_eq_some_iff.1 h6).1]; exact h6
theorem cur_lt {w0 : World} {c : Nat} {v : Value} {xs : List Int} {w : World} (h : Cur w0 c v xs w) : c < w.heap.size := by
  obtain ⟨_, _, _, _, ⟨i, hh, h5, h6⟩, _⟩ := h
  exact (Array.getElem?_eq_some_iff.1 h6).1
theorem cur_below {w0 : World} {c : Nat} {v : Value} {xs : List Int} {w w' : World} {B : Nat} (h : Cur w0 c v xs w) (hc : c < B) (h0 : w0.heap.size ≤ B) (hb : Below B w w') : Cur w0 c v xs w' := by
  obtain ⟨h1, h2, h3, h4, ⟨i, hh, h5, h6⟩, h7⟩ := h
  exact ⟨h1, h2, h3, h4, ⟨i, hh, h5, (hb.block c hc).trans h6⟩, h7.trans (hb.mono h0)⟩
theorem grown_below {a b b' : World} {c : Nat} (h : a.grownBy b (some c)) (hb : Below a.heap.size b b') : a.grownBy b' (some c) :=
  ⟨hb.os.trans h.os, hb.tape.trans h.tape, hb.output.trans h.output, Nat.le_trans h.size hb.size, fun k hk hn => (hb.block k hk).trans (h.block k hk hn)⟩
end Go.Proofs.YtnfmhiephdhopaaDoor
namespace Go.Proofs.YtnfmhiephdhopaaDoor
open Go.RowKit
set_option linter.unusedVariables false
/-- A new cursor. -/
def NewCur (v : Value) (xs : List Int) (w : World) (e : Ending) (w' : World) : Prop :=
  e = .returned (.pointer (some ⟨w.heap.size, 0, none⟩)) ∧ Cur w w.heap.size v xs w'
set_option maxRecDepth 100000 in
theorem new_any (v : Value) (xs : List Int) (w : World) (hcode : Code w v xs) (hsm : xs.length ≤ 1048576) (hby : ∀ x ∈ xs, 0 ≤ x ∧ x ≤ 255) :
    Calls Tryd.prog 37 #[v] w (NewCur v xs w) := by
  have HCODE := Lib.hid hcode
  have HBY := Lib.hid hby; clear hby
  rcases hcode with ⟨rfl, ao, cap, rfl⟩ | ⟨b, off, cap, rfl, hcap, hbl, hb⟩
  · go_enter Tryd.func37, Tryd.ntmps37
    go_wp2
    go_loop [3, 4] (fun h i => ∃ z : Int, i = .int .i64 0 ∧ h = .int .i64 z) (fun _ _ => 0)
    case atStart => exact ⟨_, rfl, rfl⟩
    case round =>
      obtain ⟨z, rfl, rfl⟩ := hrel
      go_wp2
      go_ret
      exact ⟨rfl, HCODE.out, hsm, HBY.out, Nat.le_refl _, ⟨0, _, Nat.le_refl _, heap_alloc_new w _⟩, (Below.refl _ _).alloc (Nat.le_refl _) _⟩
  · have HB := Lib.hid hb; clear hb
    go_enter Tryd.func37, Tryd.ntmps37
    go_wp2
    go_loop [3, 4] (fun h i => ∃ k : Nat, ∃ z : Int, k ≤ xs.length ∧ k ≤ 4000 ∧ i = .int .i64 k ∧ h = .int .i64 z) (fun _ i => 4000 - (intOf i).toNat)
    case atStart => exact ⟨0, _, by omega, by omega, rfl, rfl⟩
    case round =>
      obtain ⟨k, z, hk, hk4, rfl, rfl⟩ := hrel
      by_cases hlt : k < xs.length
      · by_cases h4 : k < 4000
        · have hcell := HB.out k hlt
          have i1 : (0 : Int) ≤ (k : Int) := by omega
          have i2 : (k : Int) < (xs.length : Int) := by omega
          generalize xs.getD k 0 = y at hcell
          go_wp2
          go_round
          case rel => exact ⟨k + 1, _, by omega, by omega, by go_num, rfl⟩
          case measure => simp [intOf]; omega
        · go_wp2
          go_ret
          exact ⟨rfl, HCODE.out, hsm, HBY.out, Nat.le_refl _, ⟨0, _, Nat.zero_le _, heap_alloc_new w _⟩, (Below.refl _ _).alloc (Nat.le_refl _) _⟩
      · have hge : ¬ ((k : Int) < (xs.length : Int)) := by omega
        go_wp2
        go_ret
        exact ⟨rfl, HCODE.out, hsm, HBY.out, Nat.le_refl _, ⟨0, _, Nat.zero_le _, heap_alloc_new w _⟩, (Below.refl _ _).alloc (Nat.le_refl _) _⟩
end Go.Proofs.YtnfmhiephdhopaaDoor
namespace Go.Proofs.YtnfmhiephdhopaaDoor
open Go.RowKit
set_option linter.unusedVariables false
theorem ownsN_grown {w w' : World} {B c : Nat} {v : Value} {xs : List Int} (h : OwnsN w B v xs) (hg : w.grownBy w' (some c)) (hc : c < B) : OwnsN w' B v xs := by
  refine h.kept hg ?_
  cases hv : v.ownBlock with
  | none => exact Or.inl rfl
  | some k => exact Or.inr (by intro e; have := (h.lt k hv).1; simp at e; omega)
theorem ownsN_from {w : World} {B C : Nat} {v : Value} {xs : List Int} (h : OwnsN w C v xs) (hb : B ≤ C) : OwnsN w B v xs := by
  refine ⟨h.1, ?_⟩
  rcases h.2 with hn | ⟨g, cap, cur, e, hb', rest⟩
  · exact .inl hn
  · exact .inr ⟨g, cap, cur, e, Nat.le_trans hb hb', rest⟩
/-- A choice is drawn. -/
def DrawnBool (w0 : World) (c : Nat) (v : Value) (xs : List Int) (w : World) (e : Ending) (w' : World) : Prop :=
  (∃ b : Bool, e = .returned (.bool b)) ∧ Cur w0 c v xs w' ∧ w.grownBy w' (some c)
/-- A list of at most most numbers is drawn, in new memory. -/
def DrawnList (w0 : World) (c : Nat) (v : Value) (xs : List Int) (w : World) (most : Nat) (e : Ending) (w' : World) : Prop :=
  ∃ (u : Value) (ys : List Int), ys.length ≤ most ∧ e = .returned u ∧ OwnsN w' w.heap.size u ys ∧ Cur w0 c v xs w' ∧ w.grownBy w' (some c)
set_option maxRecDepth 100000 in
theorem once_any (w0 : World) (c : Nat) (v : Value) (xs : List Int) (w : World) (hC : Cur w0 c v xs w) (n : Int) (h1 : 1 ≤ n) (h2 : n ≤ 256) :
    Calls Tryd.prog 50 #[.pointer (some ⟨c, 0, none⟩), .int .i64 n] w (DrawnBool w0 c v xs w) := by
  go_enter Tryd.func50, Tryd.ntmps50
  go_wp2_with fail
  refine (below_any w0 c v xs _ hC n h1 (by omega)).mono ?_
  rintro e w1 ⟨x, x0, x1, rfl, hC1, hg1⟩
  go_wp2
  go_ret
  exact ⟨⟨_, rfl⟩, hC1, hg1⟩
set_option maxHeartbeats 2000000 in
set_option maxRecDepth 100000 in
theorem set_any (w0 : World) (c : Nat) (v : Value) (xs : List Int) (w : World) (hC : Cur w0 c v xs w) :
    Calls Tryd.prog 49 #[.pointer (some ⟨c, 0, none⟩)] w (DrawnList w0 c v xs w 6) := by
  have hcB := cur_lt hC
  have h0B : w0.heap.size ≤ w.heap.size := hC.old.size
  go_enter Tryd.func49, Tryd.ntmps49
  go_wp2_with fail
  refine (below_any w0 c v xs _ (cur_alloc hC _) 3 (by omega) (by omega)).mono ?_
  rintro e wa ⟨x, x0, x1, rfl, hCa, hga⟩
  go_wp2_with fail
  refine (below_any w0 c v xs _ hCa 7 (by omega) (by omega)).mono ?_
  rintro e wb ⟨n, n0, n1, rfl, hCb, hgb⟩
  obtain ⟨n, rfl⟩ := Int.eq_ofNat_of_zero_le n0
  have hownb : OwnsN wb w.heap.size (.slice (some ⟨w.heap.size, 0, none⟩) 0 0) [] := ownsN_grown (ownsN_grown (ownsN_lit w _ (Nat.le_refl _) #[] 0 [] rfl rfl (by decide)) hga hcB) hgb hcB
  have hgw := grown_chain (World.grownBy_alloc w _ _) (grown_chain hga hgb)
  clear hga hgb hCa
  go_wp2_with fail
  go_loopw [3, 4, 5] (fun o y i wr => ∃ (m : Nat) (z : Int) (bs : List Int), bs.length + m ≤ 6 ∧ 0 ≤ z ∧ z ≤ 30 ∧ i = .int .i64 m ∧ y = .int .i64 z ∧ OwnsN wr w.heap.size o bs ∧ Cur w0 c v xs wr ∧ w.grownBy wr (some c)) (fun _ _ i _ => (intOf i).toNat)
  case atStart => exact ⟨n, x, [], by simp; omega, x0, by omega, rfl, rfl, hownb, hCb, hgw⟩
  case round =>
    obtain ⟨m, z, bs, hbm, z0, z1, rfl, rfl, hown, hCr, hgr⟩ := hrel
    have hBr := hgr.size
    clear hownb hCb hgw
    by_cases hlt : 0 < m
    · by_cases hz : z < 24
      · have hlen : Hid (bs.length + 1 ≤ 17592186044416) := Lib.hid (by omega)
        go_wp2_with (at_builtin; refine append_ints rfl (.tmp 19) (.tmp 21) rfl w.heap.size _ _ rfl hown hBr _ [z] 1 _ rfl (by first | rfl | (simp; done)) rfl (by have := hlen.out; simp; omega) ?_)
        intro v' w2 hown2 hbel2
        have hC2 := cur_below hCr hcB h0B hbel2
        have hg2 := grown_below hgr hbel2
        clear hown hbel2 hgr hCr hlen
        go_wp2_with fail
        refine (below_any w0 c v xs _ hC2 3 (by omega) (by omega)).mono ?_
        rintro e w3 ⟨p, p0, p1, rfl, hC3, hg3⟩
        have hown3 := ownsN_grown hown2 hg3 hcB
        have hg3' := grown_chain hg2 hg3
        clear hown2 hg2 hg3 hC2
        go_wp2_with fail
        refine (below_any w0 c v xs _ hC3 2 (by omega) (by omega)).mono ?_
        rintro e w4 ⟨q, q0, q1, rfl, hC4, hg4⟩
        have hown4 := ownsN_grown hown3 hg4 hcB
        have hg4' := grown_chain hg3' hg4
        clear hown3 hg3' hg4 hC3
        obtain ⟨r0, r1⟩ : 0 ≤ p * q ∧ p * q ≤ 2 := by
          rcases (show q = 0 ∨ q = 1 by omega) with rfl | rfl
          · omega
          · omega
        go_wp2
        go_roundw
        case rel => exact ⟨m - 1, z + 1 + p * q, bs ++ [z], by simp; omega, by omega, by omega, by go_num, by go_num, hown4, hC4, hg4'⟩
        case measure => simp [intOf]; omega
      · go_wp2
        go_ret
        exact ⟨_, bs, by omega, rfl, hown, hCr, hgr⟩
    · obtain rfl : m = 0 := by omega
      go_wp2
      go_ret
      exact ⟨_, bs, by omega, rfl, hown, hCr, hgr⟩
def anys : List Int := [-1, 0, 23, 24]
theorem anys_in : ∀ x ∈ anys, -1 ≤ x ∧ x ≤ 24 := by decide
set_option maxHeartbeats 2000000 in
set_option maxRecDepth 100000 in
theorem any_any (w0 : World) (c : Nat) (v : Value) (xs : List Int) (w : World) (hC : Cur w0 c v xs w) :
    Calls Tryd.prog 38 #[.pointer (some ⟨c, 0, none⟩)] w (DrawnList w0 c v xs w 7) := by
  have hcB := cur_lt hC
  have h0B : w0.heap.size ≤ w.heap.size := hC.old.size
  go_enter Tryd.func38, Tryd.ntmps38
  go_wp2_with fail
  refine (set_any w0 c v xs _ hC).mono ?_
  rintro e w1 ⟨u, ys, hl, rfl, hown, hC1, hg1⟩
  go_wp2_with fail
  refine (once_any w0 c v xs _ hC1 8 (by omega) (by omega)).mono ?_
  rintro e w2 ⟨⟨b, rfl⟩, hC2, hg2⟩
  have hown2 := ownsN_grown hown hg2 hcB
  have hg2' := grown_chain hg1 hg2
  clear hown hC1 hg1 hg2
  cases b with
  | false =>
    go_wp2
    go_ret
    exact ⟨_, ys, by omega, rfl, hown2, hC2, hg2'⟩
  | true =>
    go_wp2_with fail
    have hp := pick_any w0 c v xs (w2.alloc (.cells (anys.map (Value.int .i64)).toArray 3 (0, 0))) (cur_alloc hC2 _) w2.heap.size anys _ _ anys_in (by decide) (by decide) (heap_alloc_new w2 _) (by have := cur_lt hC2; omega)
    refine Calls.mono hp ?_
    rintro e w3 ⟨x, x0, x1, rfl, hC3, hg3⟩
    have hown3 := ownsN_grown (hown2.alloc _) hg3 hcB
    have hg3' := grown_chain hg2' (grown_chain (World.grownBy_alloc w2 _ _) hg3)
    have hB3 := hg3'.size
    have hlen : Hid (ys.length + 1 ≤ 17592186044416) := Lib.hid (by omega)
    clear hown2 hC2 hg2' hg3 hp
    go_wp2_with (at_builtin; refine append_ints rfl (.tmp 8) (.tmp 12) rfl w.heap.size _ _ rfl hown3 hB3 _ [x] 1 _ rfl (by first | rfl | (simp; done)) rfl (by have := hlen.out; simp; omega) ?_)
    intro v' w4 hown4 hbel4
    have hC4 := cur_below hC3 hcB h0B hbel4
    have hg4 := grown_below hg3' hbel4
    clear hown3 hbel4 hg3' hC3
    go_wp2
    go_ret
    exact ⟨_, ys ++ [x], by simp; omega, rfl, hown4, hC4, hg4⟩
/-- Two lists are drawn. -/
def Two (w : World) (e : Ending) (w' : World) : Prop :=
  ∃ (u t : Value) (a b : List Int), a.length ≤ 7 ∧ b.length ≤ 7 ∧ e = .returned (.tuple #[u, t]) ∧ OwnsN w' w.heap.size u a ∧ OwnsN w' w.heap.size t b ∧ Below w.heap.size w w'
theorem two_any (v : Value) (xs : List Int) (w : World) (hcode : Code w v xs) (hsm : xs.length ≤ 1048576) (hby : ∀ x ∈ xs, 0 ≤ x ∧ x ≤ 255) :
    Calls Tryd.prog 25 #[v] w (Two w) := by
  have HN := Lib.hid (new_any v xs w hcode hsm hby)
  clear hcode hsm hby
  go_enter Tryd.func25, Tryd.ntmps25
  go_wp2_with fail
  refine HN.out.mono ?_
  rintro e w1 ⟨rfl, hC⟩
  have hs1 := hC.old.size
  have hlt := cur_lt hC
  go_wp2_with fail
  refine (any_any _ _ _ _ _ hC).mono ?_
  rintro e w2 ⟨u, a, hla, rfl, hown, hC2, hg2⟩
  go_wp2_with fail
  refine (any_any _ _ _ _ _ hC2).mono ?_
  rintro e w3 ⟨t, b, hlb, rfl, hown3, hC3, hg3⟩
  have hu := ownsN_grown hown hg3 hlt
  have hg2s := hg2.size
  go_wp2
  go_ret2
  exact ⟨u, t, a, b, hla, hlb, rfl, ownsN_from hu hs1, ownsN_from hown3 (by omega), hC3.old⟩
theorem drawUnite (v : Value) (xs : List Int) (w : World) (hcode : Code w v xs) (hsm : xs.length ≤ 1048576) (hby : ∀ x ∈ xs, 0 ≤ x ∧ x ≤ 255) :
    Calls Tryd.prog 6 #[v] w (Two w) := by
  have H := Lib.hid (two_any v xs w hcode hsm hby)
  clear hcode hsm hby
  go_enter Tryd.func6, Tryd.ntmps6
  go_wp2_with fail
  refine H.out.mono ?_
  rintro e w1 ⟨u, t, a, b, hla, hlb, rfl, hu, ht, hb⟩
  go_wp2
  go_ret2
  exact ⟨u, t, a, b, hla, hlb, rfl, hu, ht, hb⟩
end Go.Proofs.YtnfmhiephdhopaaDoor
namespace Go.Proofs.YtnfmhiephdhopaaDoor
open Go.RowKit
set_option linter.unusedVariables false
set_option maxRecDepth 100000 in
theorem hasL (v : Value) (xs : List Int) (x : Int) (w : World) (h : Ints w v xs) (hn : xs.length ≤ 1048576) :
    Calls Tryd.prog 20 #[v, .int .i64 x] w fun e w' => e = .returned (.bool (decide (x ∈ xs))) ∧ Below w.heap.size w w' := by
  have H := Lib.hid h
  obtain ⟨a, cap, rfl⟩ := ints_len h
  clear h
  go_enter Tryd.func20, Tryd.ntmps20
  go_wp2
  go_loop [5] (fun i => ∃ k : Nat, k ≤ xs.length ∧ i = .int .i64 k ∧ Hid (∀ j, j < k → xs.getD j 0 ≠ x)) (fun i => xs.length - (intOf i).toNat)
  case atStart => exact ⟨0, Nat.zero_le _, rfl, Lib.hid (fun j hj => by omega)⟩
  case round =>
    obtain ⟨k, hk, rfl, hne⟩ := hrel
    by_cases hlt : k < xs.length
    · obtain ⟨b, off, cap', hv, hbl, hc⟩ := ints_cell H.out (by omega)
      simp only [Value.slice.injEq] at hv
      obtain ⟨rfl, _, rfl⟩ := hv
      have hcell := hc k hlt
      have i1 : (0 : Int) ≤ (k : Int) := by omega
      have i2 : (k : Int) < (xs.length : Int) := by omega
      clear hc
      by_cases he : xs.getD k 0 = x
      · have HY := Lib.hid (show decide (x ∈ xs) = true from decide_eq_true ((member_iff xs x).2 ⟨k, hlt, he⟩))
        rw [he] at hcell
        have heq : (x == x) = true := by simp
        clear he
        go_wp2
        go_ret
        exact ⟨ret_b HY.out.symm, Below.refl _ _⟩
      · have HN : Hid (∀ j, j < k + 1 → xs.getD j 0 ≠ x) := Lib.hid (fun j hj => by
          by_cases e : j = k
          · exact e ▸ he
          · exact hne.out j (by omega))
        have heq : (xs.getD k 0 == x) = false := by rw [beq_eq_false_iff_ne]; exact he
        clear he
        generalize xs.getD k 0 = y at hcell heq
        go_wp2
        go_round
        case rel => exact ⟨k + 1, by omega, by go_num, HN⟩
        case measure => simp [intOf]; omega
    · have HN := Lib.hid (show decide (x ∈ xs) = false from decide_eq_false (fun g => by
        obtain ⟨j, hj, e⟩ := (member_iff xs x).1 g
        exact hne.out j (by omega) e))
      go_wp2
      go_ret
      exact ⟨ret_b HN.out.symm, Below.refl _ _⟩
set_option maxRecDepth 100000 in
theorem sameL (v u : Value) (xs : List Int) (w : World) (h : Ints w v xs) (g : Ints w u xs) (hn : xs.length ≤ 1048576) :
    Calls Tryd.prog 10 #[v, u] w fun e w' => e = .returned (.bool true) ∧ Below w.heap.size w w' := by
  have H := Lib.hid h
  have G := Lib.hid g
  obtain ⟨a, cap, rfl⟩ := ints_len h
  obtain ⟨a2, cap2, rfl⟩ := ints_len g
  clear h g
  go_enter Tryd.func10, Tryd.ntmps10
  go_wp2
  go_loopw [5] (fun i wr => ∃ k : Nat, k ≤ xs.length ∧ i = .int .i64 k ∧ Below w.heap.size w wr) (fun i _ => xs.length - (intOf i).toNat)
  case atStart => exact ⟨0, Nat.zero_le _, rfl, Below.refl _ _⟩
  case round =>
    obtain ⟨k, hk, rfl, hbel⟩ := hrel
    by_cases hlt : k < xs.length
    · obtain ⟨b, off, cap', hv, hbl, hc⟩ := ints_cell H.out (by omega)
      simp only [Value.slice.injEq] at hv
      obtain ⟨rfl, _, rfl⟩ := hv
      obtain ⟨b2, off2, cap2', hv2, hbl2, hc2⟩ := ints_cell G.out (by omega)
      simp only [Value.slice.injEq] at hv2
      obtain ⟨rfl, _, rfl⟩ := hv2
      have hcell := (hbel.cell (p := ⟨b, off + k, none⟩) hbl).trans (hc k hlt)
      have hcell2 := (hbel.cell (p := ⟨b2, off2 + k, none⟩) hbl2).trans (hc2 k hlt)
      have i1 : (0 : Int) ≤ (k : Int) := by omega
      have i2 : (k : Int) < (xs.length : Int) := by omega
      clear hc hc2
      generalize xs.getD k 0 = y at hcell hcell2
      go_wp2
      go_quiet (fail)
      go_wp2
      go_roundw
      case rel => exact ⟨k + 1, by omega, by go_num, below_drewN hbel _⟩
      case measure => simp [intOf]; omega
    · go_wp2
      go_ret
      exact ⟨rfl, hbel⟩
theorem bigL (a : Option Addr) (cap n : Nat) (w : World) : Calls Tryd.prog 5 #[.slice a n cap] w fun e w' => e = .returned (.bool (decide ((1048576 : Int) < (n : Int)))) ∧ w' = w := by
  go_enter Tryd.func5, Tryd.ntmps5
  go_wp2
  go_ret
  exact ⟨rfl, rfl⟩
theorem uniteL_small (a b : List Int) : (uniteL a b).length ≤ 1048576 := by
  unfold uniteL; split
  · have := List.length_filter_le (fun x => decide (x ∈ a) || decide (x ∈ b)) ((List.range 24).map fun i : Nat => (i : Int))
    simp at this ⊢; omega
  · simp
theorem meetL_small (a b : List Int) (h : a.length ≤ 1048576) : (meetL a b).length ≤ 1048576 := by
  unfold meetL; split
  · exact Nat.le_trans (List.length_filter_le _ _) h
  · simp
theorem subL_small (a b : List Int) (h : a.length ≤ 1048576) : (subL a b).length ≤ 1048576 := by
  unfold subL; split
  · exact Nat.le_trans (List.length_filter_le _ _) h
  · simp
set_option maxHeartbeats 16000000 in
set_option maxRecDepth 100000 in
theorem law_fnSets (p : Option Addr) (cap : Nat) (xs : List Int) (w : World) (hcode : Code w (.slice p xs.length cap) xs) (hby : ∀ x ∈ xs, 0 ≤ x ∧ x ≤ 255) (htab : TabZ w ∧ Tab w) :
    Calls Tryd.prog 3 #[.slice p xs.length cap] w fun e w' => e = .returned (.bool true) ∧ Below w.heap.size w w' := by
  obtain ⟨hZ, hT⟩ := htab
  by_cases hl : xs.length ≤ 1048576
  · have HD := Lib.hid (drawUnite _ xs w hcode hl hby)
    have hbig : decide ((1048576 : Int) < (xs.length : Int)) = false := decide_eq_false (by omega)
    have HBIG := Lib.hid (bigL p cap xs.length w)
    rw [hbig] at HBIG
    have HZ := Lib.hid hZ
    have HT := Lib.hid hT
    clear hcode hby hl hbig hZ hT
    generalize xs.length = n at *
    go_enter Tryd.func3, Tryd.ntmps3
    go_wp2_with fail
    refine HBIG.out.mono ?_
    rintro e wx ⟨rfl, rfl⟩
    go_wp2_with fail
    refine HD.out.mono ?_
    rintro e w1 ⟨ua, ub, a, b, ha7, hb7, rfl, oa, ob, b1⟩
    have Ia := ownsN_ints oa
    have Ib := ownsN_ints ob
    have HLA : Hid (a.length ≤ 1048576) := Lib.hid (by omega)
    have HLB : Hid (b.length ≤ 1048576) := Lib.hid (by omega)
    clear oa ob HD HBIG
    obtain ⟨pa, qa, rfl⟩ := ints_len Ia
    obtain ⟨pb, qb, rfl⟩ := ints_len Ib
    have HLu := Lib.hid (uniteL_small a b)
    have HLm := Lib.hid (meetL_small a b HLA.out)
    have HLd := Lib.hid (subL_small a b HLA.out)
    have HPAR := Lib.hid (fun w h1 h2 => implParSet (fmtSet a) w (fmtSet_len a) h1 h2)
    have HFMT := Lib.hid (fun v w h => specFmtSet v a w h HLA.out)
    have HEQ : Hid (((strB (fmtSet a)).toList == (strB (fmtSet a)).toList) = true) := Lib.hid (by simp)
    cases hsa : setB a with
    | false =>
      have HSA := Lib.hid hsa
      obtain ⟨e1, e2, e3⟩ := none_of (a := a) (b := b) (by rw [hsa]; rfl)
      have E1 := Lib.hid e1
      have E2 := Lib.hid e2
      have E3 := Lib.hid e3
      rw [parSet_no' hsa] at HPAR
      clear hsa e1 e2 e3
      go_wp2_with fail
      refine (implUniteSets _ _ a b _ Ia Ib HLA.out HLB.out).mono ?_
      rintro e v1 ⟨xu, rfl, ou, c1⟩
      have d1 := b1.trans (c1.mono b1.size)
      replace Ia := ints_below Ia c1
      replace Ib := ints_below Ib c1
      clear b1
      have Iu := ownsN_ints ou
      clear ou c1
      obtain ⟨pu, qu, rfl⟩ := ints_len Iu
      go_wp2_with fail
      refine (implMeetSets _ _ a b _ Ia Ib HLA.out HLB.out).mono ?_
      rintro e v2 ⟨xm, rfl, om, c2⟩
      have d2 := d1.trans (c2.mono d1.size)
      replace Ia := ints_below Ia c2
      replace Ib := ints_below Ib c2
      replace Iu := ints_below Iu c2
      clear d1
      have Im := ownsN_ints om
      clear om c2
      obtain ⟨pm, qm, rfl⟩ := ints_len Im
      go_wp2_with fail
      refine (implSubtractSets _ _ a b _ Ia Ib HLA.out HLB.out).mono ?_
      rintro e v3 ⟨xd, rfl, od, c3⟩
      have d3 := d2.trans (c3.mono d2.size)
      replace Ia := ints_below Ia c3
      replace Ib := ints_below Ib c3
      replace Iu := ints_below Iu c3
      replace Im := ints_below Im c3
      clear d2
      have Id := ownsN_ints od
      clear od c3
      obtain ⟨pd, qd, rfl⟩ := ints_len Id
      go_wp2_with fail
      refine (specUnite _ _ a b _ Ia Ib HLA.out HLB.out).mono ?_
      rintro e v4 ⟨r, rfl, or, c4⟩
      have d4 := d3.trans (c4.mono d3.size)
      replace Ia := ints_below Ia c4
      replace Ib := ints_below Ib c4
      replace Iu := ints_below Iu c4
      replace Im := ints_below Im c4
      replace Id := ints_below Id c4
      clear d3
      have Ir := ownsN_ints or
      clear or c4
      go_wp2_with fail
      refine (sameL _ _ _ _ Iu Ir HLu.out).mono ?_
      rintro e v5 ⟨rfl, c5⟩
      have d5 := d4.trans (c5.mono d4.size)
      replace Ia := ints_below Ia c5
      replace Ib := ints_below Ib c5
      replace Iu := ints_below Iu c5
      replace Im := ints_below Im c5
      replace Id := ints_below Id c5
      replace Ir := ints_below Ir c5
      clear d4 c5
      clear Ir
      go_wp2_with fail
      refine (specMeet _ _ a b _ Ia Ib HLA.out HLB.out).mono ?_
      rintro e v6 ⟨r, rfl, or, c6⟩
      have d6 := d5.trans (c6.mono d5.size)
      replace Ia := ints_below Ia c6
      replace Ib := ints_below Ib c6
      replace Iu := ints_below Iu c6
      replace Im := ints_below Im c6
      replace Id := ints_below Id c6
      clear d5
      have Ir := ownsN_ints or
      clear or c6
      go_wp2_with fail
      refine (sameL _ _ _ _ Im Ir HLm.out).mono ?_
      rintro e v7 ⟨rfl, c7⟩
      have d7 := d6.trans (c7.mono d6.size)
      replace Ia := ints_below Ia c7
      replace Ib := ints_below Ib c7
      replace Iu := ints_below Iu c7
      replace Im := ints_below Im c7
      replace Id := ints_below Id c7
      replace Ir := ints_below Ir c7
      clear d6 c7
      clear Ir
      go_wp2_with fail
      refine (specSub _ _ a b _ Ia Ib HLA.out HLB.out).mono ?_
      rintro e v8 ⟨r, rfl, or, c8⟩
      have d8 := d7.trans (c8.mono d7.size)
      replace Ia := ints_below Ia c8
      replace Ib := ints_below Ib c8
      replace Iu := ints_below Iu c8
      replace Im := ints_below Im c8
      replace Id := ints_below Id c8
      clear d7
      have Ir := ownsN_ints or
      clear or c8
      go_wp2_with fail
      refine (sameL _ _ _ _ Id Ir HLd.out).mono ?_
      rintro e v9 ⟨rfl, c9⟩
      have d9 := d8.trans (c9.mono d8.size)
      replace Ia := ints_below Ia c9
      replace Ib := ints_below Ib c9
      replace Iu := ints_below Iu c9
      replace Im := ints_below Im c9
      replace Id := ints_below Id c9
      replace Ir := ints_below Ir c9
      clear d8 c9
      clear Ir
      go_wp2_with fail
      refine (implIsSet _ a _ Ia HLA.out).mono ?_
      rintro e v10 ⟨rfl, c10⟩
      have d10 := d9.trans (c10.mono d9.size)
      replace Ia := ints_below Ia c10
      replace Ib := ints_below Ib c10
      replace Iu := ints_below Iu c10
      replace Im := ints_below Im c10
      replace Id := ints_below Id c10
      clear d9 c10
      go_wp2_with fail
      refine (specIsSet _ a _ Ia HLA.out).mono ?_
      rintro e v11 ⟨rfl, c11⟩
      have d11 := d10.trans (c11.mono d10.size)
      replace Ia := ints_below Ia c11
      replace Ib := ints_below Ib c11
      replace Iu := ints_below Iu c11
      replace Im := ints_below Im c11
      replace Id := ints_below Id c11
      clear d10 c11
      go_wp2_with fail
      refine (implFormatSet _ a _ Ia (HZ.out.on d11) HLA.out).mono ?_
      rintro e v12 ⟨rfl, c12⟩
      have d12 := d11.trans (c12.mono d11.size)
      replace Ia := ints_below Ia c12
      replace Ib := ints_below Ib c12
      replace Iu := ints_below Iu c12
      replace Im := ints_below Im c12
      replace Id := ints_below Id c12
      clear d11 c12
      go_wp2_with fail
      refine (HPAR.out _ (HT.out.on d12) (HZ.out.on d12)).mono ?_
      rintro e v13 ⟨xx, rfl, ox, c13⟩
      have d13 := d12.trans (c13.mono d12.size)
      replace Ia := ints_below Ia c13
      replace Ib := ints_below Ib c13
      replace Iu := ints_below Iu c13
      replace Im := ints_below Im c13
      replace Id := ints_below Id c13
      clear d12
      have Ix := ownsN_ints ox
      clear ox c13
      go_wp2_with fail
      refine (HFMT.out _ _ Ia).mono ?_
      rintro e v14 ⟨rfl, c14⟩
      have d14 := d13.trans (c14.mono d13.size)
      replace Ia := ints_below Ia c14
      replace Ib := ints_below Ib c14
      replace Iu := ints_below Iu c14
      replace Im := ints_below Im c14
      replace Id := ints_below Id c14
      replace Ix := ints_below Ix c14
      clear d13 c14
      have heq := HEQ.out
      go_wp2_with fail
      refine (specIsSet _ a _ Ia HLA.out).mono ?_
      rintro e v15 ⟨rfl, c15⟩
      have d15 := d14.trans (c15.mono d14.size)
      replace Ia := ints_below Ia c15
      replace Ib := ints_below Ib c15
      replace Iu := ints_below Iu c15
      replace Im := ints_below Im c15
      replace Id := ints_below Id c15
      replace Ix := ints_below Ix c15
      clear d14 c15
      rw [HSA.out]
      clear Ix heq
      go_wp2_with fail
      refine (specIsSet _ a _ Ia HLA.out).mono ?_
      rintro e v16 ⟨rfl, c16⟩
      have d16 := d15.trans (c16.mono d15.size)
      replace Ia := ints_below Ia c16
      replace Ib := ints_below Ib c16
      replace Iu := ints_below Iu c16
      replace Im := ints_below Im c16
      replace Id := ints_below Id c16
      clear d15 c16
      rw [HSA.out]
      rw [E1.out, E2.out, E3.out]
      go_wp2
      go_ret
      exact ⟨rfl, d16⟩
    | true =>
      have HSA := Lib.hid hsa
      rw [parSet_yes' hsa] at HPAR
      cases hsb : setB b with
      | false =>
        have HSB := Lib.hid hsb
        obtain ⟨e1, e2, e3⟩ := none_of (a := a) (b := b) (by rw [hsa, hsb]; rfl)
        have E1 := Lib.hid e1
        have E2 := Lib.hid e2
        have E3 := Lib.hid e3
        clear hsa hsb e1 e2 e3
        go_wp2_with fail
        refine (implUniteSets _ _ a b _ Ia Ib HLA.out HLB.out).mono ?_
        rintro e v1 ⟨xu, rfl, ou, c1⟩
        have d1 := b1.trans (c1.mono b1.size)
        replace Ia := ints_below Ia c1
        replace Ib := ints_below Ib c1
        clear b1
        have Iu := ownsN_ints ou
        clear ou c1
        obtain ⟨pu, qu, rfl⟩ := ints_len Iu
        go_wp2_with fail
        refine (implMeetSets _ _ a b _ Ia Ib HLA.out HLB.out).mono ?_
        rintro e v2 ⟨xm, rfl, om, c2⟩
        have d2 := d1.trans (c2.mono d1.size)
        replace Ia := ints_below Ia c2
        replace Ib := ints_below Ib c2
        replace Iu := ints_below Iu c2
        clear d1
        have Im := ownsN_ints om
        clear om c2
        obtain ⟨pm, qm, rfl⟩ := ints_len Im
        go_wp2_with fail
        refine (implSubtractSets _ _ a b _ Ia Ib HLA.out HLB.out).mono ?_
        rintro e v3 ⟨xd, rfl, od, c3⟩
        have d3 := d2.trans (c3.mono d2.size)
        replace Ia := ints_below Ia c3
        replace Ib := ints_below Ib c3
        replace Iu := ints_below Iu c3
        replace Im := ints_below Im c3
        clear d2
        have Id := ownsN_ints od
        clear od c3
        obtain ⟨pd, qd, rfl⟩ := ints_len Id
        go_wp2_with fail
        refine (specUnite _ _ a b _ Ia Ib HLA.out HLB.out).mono ?_
        rintro e v4 ⟨r, rfl, or, c4⟩
        have d4 := d3.trans (c4.mono d3.size)
        replace Ia := ints_below Ia c4
        replace Ib := ints_below Ib c4
        replace Iu := ints_below Iu c4
        replace Im := ints_below Im c4
        replace Id := ints_below Id c4
        clear d3
        have Ir := ownsN_ints or
        clear or c4
        go_wp2_with fail
        refine (sameL _ _ _ _ Iu Ir HLu.out).mono ?_
        rintro e v5 ⟨rfl, c5⟩
        have d5 := d4.trans (c5.mono d4.size)
        replace Ia := ints_below Ia c5
        replace Ib := ints_below Ib c5
        replace Iu := ints_below Iu c5
        replace Im := ints_below Im c5
        replace Id := ints_below Id c5
        replace Ir := ints_below Ir c5
        clear d4 c5
        clear Ir
        go_wp2_with fail
        refine (specMeet _ _ a b _ Ia Ib HLA.out HLB.out).mono ?_
        rintro e v6 ⟨r, rfl, or, c6⟩
        have d6 := d5.trans (c6.mono d5.size)
        replace Ia := ints_below Ia c6
        replace Ib := ints_below Ib c6
        replace Iu := ints_below Iu c6
        replace Im := ints_below Im c6
        replace Id := ints_below Id c6
        clear d5
        have Ir := ownsN_ints or
        clear or c6
        go_wp2_with fail
        refine (sameL _ _ _ _ Im Ir HLm.out).mono ?_
        rintro e v7 ⟨rfl, c7⟩
        have d7 := d6.trans (c7.mono d6.size)
        replace Ia := ints_below Ia c7
        replace Ib := ints_below Ib c7
        replace Iu := ints_below Iu c7
        replace Im := ints_below Im c7
        replace Id := ints_below Id c7
        replace Ir := ints_below Ir c7
        clear d6 c7
        clear Ir
        go_wp2_with fail
        refine (specSub _ _ a b _ Ia Ib HLA.out HLB.out).mono ?_
        rintro e v8 ⟨r, rfl, or, c8⟩
        have d8 := d7.trans (c8.mono d7.size)
        replace Ia := ints_below Ia c8
        replace Ib := ints_below Ib c8
        replace Iu := ints_below Iu c8
        replace Im := ints_below Im c8
        replace Id := ints_below Id c8
        clear d7
        have Ir := ownsN_ints or
        clear or c8
        go_wp2_with fail
        refine (sameL _ _ _ _ Id Ir HLd.out).mono ?_
        rintro e v9 ⟨rfl, c9⟩
        have d9 := d8.trans (c9.mono d8.size)
        replace Ia := ints_below Ia c9
        replace Ib := ints_below Ib c9
        replace Iu := ints_below Iu c9
        replace Im := ints_below Im c9
        replace Id := ints_below Id c9
        replace Ir := ints_below Ir c9
        clear d8 c9
        clear Ir
        go_wp2_with fail
        refine (implIsSet _ a _ Ia HLA.out).mono ?_
        rintro e v10 ⟨rfl, c10⟩
        have d10 := d9.trans (c10.mono d9.size)
        replace Ia := ints_below Ia c10
        replace Ib := ints_below Ib c10
        replace Iu := ints_below Iu c10
        replace Im := ints_below Im c10
        replace Id := ints_below Id c10
        clear d9 c10
        go_wp2_with fail
        refine (specIsSet _ a _ Ia HLA.out).mono ?_
        rintro e v11 ⟨rfl, c11⟩
        have d11 := d10.trans (c11.mono d10.size)
        replace Ia := ints_below Ia c11
        replace Ib := ints_below Ib c11
        replace Iu := ints_below Iu c11
        replace Im := ints_below Im c11
        replace Id := ints_below Id c11
        clear d10 c11
        go_wp2_with fail
        refine (implFormatSet _ a _ Ia (HZ.out.on d11) HLA.out).mono ?_
        rintro e v12 ⟨rfl, c12⟩
        have d12 := d11.trans (c12.mono d11.size)
        replace Ia := ints_below Ia c12
        replace Ib := ints_below Ib c12
        replace Iu := ints_below Iu c12
        replace Im := ints_below Im c12
        replace Id := ints_below Id c12
        clear d11 c12
        go_wp2_with fail
        refine (HPAR.out _ (HT.out.on d12) (HZ.out.on d12)).mono ?_
        rintro e v13 ⟨xx, rfl, ox, c13⟩
        have d13 := d12.trans (c13.mono d12.size)
        replace Ia := ints_below Ia c13
        replace Ib := ints_below Ib c13
        replace Iu := ints_below Iu c13
        replace Im := ints_below Im c13
        replace Id := ints_below Id c13
        clear d12
        have Ix := ownsN_ints ox
        clear ox c13
        go_wp2_with fail
        refine (HFMT.out _ _ Ia).mono ?_
        rintro e v14 ⟨rfl, c14⟩
        have d14 := d13.trans (c14.mono d13.size)
        replace Ia := ints_below Ia c14
        replace Ib := ints_below Ib c14
        replace Iu := ints_below Iu c14
        replace Im := ints_below Im c14
        replace Id := ints_below Id c14
        replace Ix := ints_below Ix c14
        clear d13 c14
        have heq := HEQ.out
        go_wp2_with fail
        refine (specIsSet _ a _ Ia HLA.out).mono ?_
        rintro e v15 ⟨rfl, c15⟩
        have d15 := d14.trans (c15.mono d14.size)
        replace Ia := ints_below Ia c15
        replace Ib := ints_below Ib c15
        replace Iu := ints_below Iu c15
        replace Im := ints_below Im c15
        replace Id := ints_below Id c15
        replace Ix := ints_below Ix c15
        clear d14 c15
        rw [HSA.out]
        go_wp2_with fail
        refine (sameL _ _ _ _ Ix Ia HLA.out).mono ?_
        rintro e v16 ⟨rfl, c16⟩
        have d16 := d15.trans (c16.mono d15.size)
        replace Ia := ints_below Ia c16
        replace Ib := ints_below Ib c16
        replace Iu := ints_below Iu c16
        replace Im := ints_below Im c16
        replace Id := ints_below Id c16
        replace Ix := ints_below Ix c16
        clear d15 c16
        clear Ix heq
        go_wp2_with fail
        refine (specIsSet _ a _ Ia HLA.out).mono ?_
        rintro e v17 ⟨rfl, c17⟩
        have d17 := d16.trans (c17.mono d16.size)
        replace Ia := ints_below Ia c17
        replace Ib := ints_below Ib c17
        replace Iu := ints_below Iu c17
        replace Im := ints_below Im c17
        replace Id := ints_below Id c17
        clear d16 c17
        rw [HSA.out]
        go_wp2_with fail
        refine (specIsSet _ b _ Ib HLB.out).mono ?_
        rintro e v18 ⟨rfl, c18⟩
        have d18 := d17.trans (c18.mono d17.size)
        replace Ia := ints_below Ia c18
        replace Ib := ints_below Ib c18
        replace Iu := ints_below Iu c18
        replace Im := ints_below Im c18
        replace Id := ints_below Id c18
        clear d17 c18
        rw [HSB.out]
        rw [E1.out, E2.out, E3.out]
        go_wp2
        go_ret
        exact ⟨rfl, d18⟩
      | true =>
        have HSB := Lib.hid hsb
        have MU := Lib.hid (fun i hi => mem_unite hsa hsb i hi)
        have MM := Lib.hid (fun x => mem_meet hsa hsb x)
        have MD := Lib.hid (fun x => mem_sub hsa hsb x)
        have SU := Lib.hid (unite_set a b)
        have LU := Lib.hid (len_unite hsa hsb)
        clear hsa hsb
        go_wp2_with fail
        refine (implUniteSets _ _ a b _ Ia Ib HLA.out HLB.out).mono ?_
        rintro e v1 ⟨xu, rfl, ou, c1⟩
        have d1 := b1.trans (c1.mono b1.size)
        replace Ia := ints_below Ia c1
        replace Ib := ints_below Ib c1
        clear b1
        have Iu := ownsN_ints ou
        clear ou c1
        obtain ⟨pu, qu, rfl⟩ := ints_len Iu
        go_wp2_with fail
        refine (implMeetSets _ _ a b _ Ia Ib HLA.out HLB.out).mono ?_
        rintro e v2 ⟨xm, rfl, om, c2⟩
        have d2 := d1.trans (c2.mono d1.size)
        replace Ia := ints_below Ia c2
        replace Ib := ints_below Ib c2
        replace Iu := ints_below Iu c2
        clear d1
        have Im := ownsN_ints om
        clear om c2
        obtain ⟨pm, qm, rfl⟩ := ints_len Im
        go_wp2_with fail
        refine (implSubtractSets _ _ a b _ Ia Ib HLA.out HLB.out).mono ?_
        rintro e v3 ⟨xd, rfl, od, c3⟩
        have d3 := d2.trans (c3.mono d2.size)
        replace Ia := ints_below Ia c3
        replace Ib := ints_below Ib c3
        replace Iu := ints_below Iu c3
        replace Im := ints_below Im c3
        clear d2
        have Id := ownsN_ints od
        clear od c3
        obtain ⟨pd, qd, rfl⟩ := ints_len Id
        go_wp2_with fail
        refine (specUnite _ _ a b _ Ia Ib HLA.out HLB.out).mono ?_
        rintro e v4 ⟨r, rfl, or, c4⟩
        have d4 := d3.trans (c4.mono d3.size)
        replace Ia := ints_below Ia c4
        replace Ib := ints_below Ib c4
        replace Iu := ints_below Iu c4
        replace Im := ints_below Im c4
        replace Id := ints_below Id c4
        clear d3
        have Ir := ownsN_ints or
        clear or c4
        go_wp2_with fail
        refine (sameL _ _ _ _ Iu Ir HLu.out).mono ?_
        rintro e v5 ⟨rfl, c5⟩
        have d5 := d4.trans (c5.mono d4.size)
        replace Ia := ints_below Ia c5
        replace Ib := ints_below Ib c5
        replace Iu := ints_below Iu c5
        replace Im := ints_below Im c5
        replace Id := ints_below Id c5
        replace Ir := ints_below Ir c5
        clear d4 c5
        clear Ir
        go_wp2_with fail
        refine (specMeet _ _ a b _ Ia Ib HLA.out HLB.out).mono ?_
        rintro e v6 ⟨r, rfl, or, c6⟩
        have d6 := d5.trans (c6.mono d5.size)
        replace Ia := ints_below Ia c6
        replace Ib := ints_below Ib c6
        replace Iu := ints_below Iu c6
        replace Im := ints_below Im c6
        replace Id := ints_below Id c6
        clear d5
        have Ir := ownsN_ints or
        clear or c6
        go_wp2_with fail
        refine (sameL _ _ _ _ Im Ir HLm.out).mono ?_
        rintro e v7 ⟨rfl, c7⟩
        have d7 := d6.trans (c7.mono d6.size)
        replace Ia := ints_below Ia c7
        replace Ib := ints_below Ib c7
        replace Iu := ints_below Iu c7
        replace Im := ints_below Im c7
        replace Id := ints_below Id c7
        replace Ir := ints_below Ir c7
        clear d6 c7
        clear Ir
        go_wp2_with fail
        refine (specSub _ _ a b _ Ia Ib HLA.out HLB.out).mono ?_
        rintro e v8 ⟨r, rfl, or, c8⟩
        have d8 := d7.trans (c8.mono d7.size)
        replace Ia := ints_below Ia c8
        replace Ib := ints_below Ib c8
        replace Iu := ints_below Iu c8
        replace Im := ints_below Im c8
        replace Id := ints_below Id c8
        clear d7
        have Ir := ownsN_ints or
        clear or c8
        go_wp2_with fail
        refine (sameL _ _ _ _ Id Ir HLd.out).mono ?_
        rintro e v9 ⟨rfl, c9⟩
        have d9 := d8.trans (c9.mono d8.size)
        replace Ia := ints_below Ia c9
        replace Ib := ints_below Ib c9
        replace Iu := ints_below Iu c9
        replace Im := ints_below Im c9
        replace Id := ints_below Id c9
        replace Ir := ints_below Ir c9
        clear d8 c9
        clear Ir
        go_wp2_with fail
        refine (implIsSet _ a _ Ia HLA.out).mono ?_
        rintro e v10 ⟨rfl, c10⟩
        have d10 := d9.trans (c10.mono d9.size)
        replace Ia := ints_below Ia c10
        replace Ib := ints_below Ib c10
        replace Iu := ints_below Iu c10
        replace Im := ints_below Im c10
        replace Id := ints_below Id c10
        clear d9 c10
        go_wp2_with fail
        refine (specIsSet _ a _ Ia HLA.out).mono ?_
        rintro e v11 ⟨rfl, c11⟩
        have d11 := d10.trans (c11.mono d10.size)
        replace Ia := ints_below Ia c11
        replace Ib := ints_below Ib c11
        replace Iu := ints_below Iu c11
        replace Im := ints_below Im c11
        replace Id := ints_below Id c11
        clear d10 c11
        go_wp2_with fail
        refine (implFormatSet _ a _ Ia (HZ.out.on d11) HLA.out).mono ?_
        rintro e v12 ⟨rfl, c12⟩
        have d12 := d11.trans (c12.mono d11.size)
        replace Ia := ints_below Ia c12
        replace Ib := ints_below Ib c12
        replace Iu := ints_below Iu c12
        replace Im := ints_below Im c12
        replace Id := ints_below Id c12
        clear d11 c12
        go_wp2_with fail
        refine (HPAR.out _ (HT.out.on d12) (HZ.out.on d12)).mono ?_
        rintro e v13 ⟨xx, rfl, ox, c13⟩
        have d13 := d12.trans (c13.mono d12.size)
        replace Ia := ints_below Ia c13
        replace Ib := ints_below Ib c13
        replace Iu := ints_below Iu c13
        replace Im := ints_below Im c13
        replace Id := ints_below Id c13
        clear d12
        have Ix := ownsN_ints ox
        clear ox c13
        go_wp2_with fail
        refine (HFMT.out _ _ Ia).mono ?_
        rintro e v14 ⟨rfl, c14⟩
        have d14 := d13.trans (c14.mono d13.size)
        replace Ia := ints_below Ia c14
        replace Ib := ints_below Ib c14
        replace Iu := ints_below Iu c14
        replace Im := ints_below Im c14
        replace Id := ints_below Id c14
        replace Ix := ints_below Ix c14
        clear d13 c14
        have heq := HEQ.out
        go_wp2_with fail
        refine (specIsSet _ a _ Ia HLA.out).mono ?_
        rintro e v15 ⟨rfl, c15⟩
        have d15 := d14.trans (c15.mono d14.size)
        replace Ia := ints_below Ia c15
        replace Ib := ints_below Ib c15
        replace Iu := ints_below Iu c15
        replace Im := ints_below Im c15
        replace Id := ints_below Id c15
        replace Ix := ints_below Ix c15
        clear d14 c15
        rw [HSA.out]
        go_wp2_with fail
        refine (sameL _ _ _ _ Ix Ia HLA.out).mono ?_
        rintro e v16 ⟨rfl, c16⟩
        have d16 := d15.trans (c16.mono d15.size)
        replace Ia := ints_below Ia c16
        replace Ib := ints_below Ib c16
        replace Iu := ints_below Iu c16
        replace Im := ints_below Im c16
        replace Id := ints_below Id c16
        replace Ix := ints_below Ix c16
        clear d15 c16
        clear Ix heq
        go_wp2_with fail
        refine (specIsSet _ a _ Ia HLA.out).mono ?_
        rintro e v17 ⟨rfl, c17⟩
        have d17 := d16.trans (c17.mono d16.size)
        replace Ia := ints_below Ia c17
        replace Ib := ints_below Ib c17
        replace Iu := ints_below Iu c17
        replace Im := ints_below Im c17
        replace Id := ints_below Id c17
        clear d16 c17
        rw [HSA.out]
        go_wp2_with fail
        refine (specIsSet _ b _ Ib HLB.out).mono ?_
        rintro e v18 ⟨rfl, c18⟩
        have d18 := d17.trans (c18.mono d17.size)
        replace Ia := ints_below Ia c18
        replace Ib := ints_below Ib c18
        replace Iu := ints_below Iu c18
        replace Im := ints_below Im c18
        replace Id := ints_below Id c18
        clear d17 c18
        rw [HSB.out]
        go_wp2_with fail
        go_loopw [11] (fun i wr => ∃ k : Nat, k ≤ 24 ∧ i = .int .i64 k ∧ Ints wr (.slice pa a.length qa) a ∧ Ints wr (.slice pb b.length qb) b ∧ Ints wr (.slice pu (uniteL a b).length qu) (uniteL a b) ∧ Ints wr (.slice pm (meetL a b).length qm) (meetL a b) ∧ Ints wr (.slice pd (subL a b).length qd) (subL a b) ∧ Below wx.heap.size wx wr) (fun i _ => 24 - (intOf i).toNat)
        case atStart => exact ⟨0, Nat.zero_le _, rfl, Ia, Ib, Iu, Im, Id, d18⟩
        case round =>
          clear Ia Ib Iu Im Id d18
          obtain ⟨k, hk, rfl, Ia, Ib, Iu, Im, Id, bz⟩ := hrel
          by_cases hlt : k < 24
          · have m1 := MU.out k hlt
            have m2 := MM.out (k : Int)
            have m3 := MD.out (k : Int)
            have HA := Lib.hid (fun v w h => implHas v a (k : Int) w h HLA.out)
            have HB := Lib.hid (fun v w h => implHas v b (k : Int) w h HLB.out)
            have HU := Lib.hid (fun v w h => hasL v (uniteL a b) (k : Int) w h HLu.out)
            have HM := Lib.hid (fun v w h => hasL v (meetL a b) (k : Int) w h HLm.out)
            have HDD := Lib.hid (fun v w h => hasL v (subL a b) (k : Int) w h HLd.out)
            rw [m1] at HU
            rw [m2] at HM
            rw [m3] at HDD
            clear m1 m2 m3
            generalize decide ((k : Int) ∈ a) = x at *
            generalize decide ((k : Int) ∈ b) = y at *
            cases x <;> cases y
            all_goals
              simp only [Bool.or_true, Bool.or_false, Bool.and_true, Bool.and_false, Bool.not_true, Bool.not_false, Bool.or_self, Bool.and_self] at HU HM HDD
              go_wp2_with fail
              refine (HA.out _ _ Ia).mono ?_
              rintro e v101 ⟨rfl, c101⟩
              have d101 := bz.trans (c101.mono bz.size)
              replace Ia := ints_below Ia c101
              replace Ib := ints_below Ib c101
              replace Iu := ints_below Iu c101
              replace Im := ints_below Im c101
              replace Id := ints_below Id c101
              clear bz c101
              go_wp2_with fail
              refine (HB.out _ _ Ib).mono ?_
              rintro e v102 ⟨rfl, c102⟩
              have d102 := d101.trans (c102.mono d101.size)
              replace Ia := ints_below Ia c102
              replace Ib := ints_below Ib c102
              replace Iu := ints_below Iu c102
              replace Im := ints_below Im c102
              replace Id := ints_below Id c102
              clear d101 c102
              go_wp2_with fail
              refine (HU.out _ _ Iu).mono ?_
              rintro e v103 ⟨rfl, c103⟩
              have d103 := d102.trans (c103.mono d102.size)
              replace Ia := ints_below Ia c103
              replace Ib := ints_below Ib c103
              replace Iu := ints_below Iu c103
              replace Im := ints_below Im c103
              replace Id := ints_below Id c103
              clear d102 c103
              go_wp2_with fail
              refine (HM.out _ _ Im).mono ?_
              rintro e v104 ⟨rfl, c104⟩
              have d104 := d103.trans (c104.mono d103.size)
              replace Ia := ints_below Ia c104
              replace Ib := ints_below Ib c104
              replace Iu := ints_below Iu c104
              replace Im := ints_below Im c104
              replace Id := ints_below Id c104
              clear d103 c104
              go_wp2_with fail
              refine (HDD.out _ _ Id).mono ?_
              rintro e v105 ⟨rfl, c105⟩
              have d105 := d104.trans (c105.mono d104.size)
              replace Ia := ints_below Ia c105
              replace Ib := ints_below Ib c105
              replace Iu := ints_below Iu c105
              replace Im := ints_below Im c105
              replace Id := ints_below Id c105
              clear d104 c105
              go_wp2
              go_roundw
              case rel => exact ⟨k + 1, by omega, by go_num, Ia, Ib, Iu, Im, Id, d105⟩
              case measure => simp [intOf]; omega
          · obtain rfl : k = 24 := by omega
            have hlen : ((uniteL a b).length : Int) + ((meetL a b).length : Int) = (a.length : Int) + (b.length : Int) := by have := LU.out; omega
            have hLu := HLu.out
            have hLm := HLm.out
            have hLa := HLA.out
            have hLb := HLB.out
            have HIS := Lib.hid (fun v w h => implIsSet v (uniteL a b) w h HLu.out)
            rw [SU.out] at HIS
            generalize (uniteL a b).length = lu at *
            generalize (meetL a b).length = lm at *
            generalize hlaa : a.length = la at *
            generalize hlbb : b.length = lb at *
            have hs1 : ((lu : Int) + (lm : Int) == (la : Int) + (lb : Int)) = true := by rw [hlen]; simp
            go_wp2_with fail
            refine (HIS.out _ _ Iu).mono ?_
            rintro e v106 ⟨rfl, c106⟩
            have d106 := bz.trans (c106.mono bz.size)
            replace Ia := ints_below Ia c106
            replace Ib := ints_below Ib c106
            replace Iu := ints_below Iu c106
            replace Im := ints_below Im c106
            replace Id := ints_below Id c106
            clear bz c106
            go_wp2
            go_ret
            exact ⟨rfl, d106⟩
  · have hbig : decide ((1048576 : Int) < (xs.length : Int)) = true := decide_eq_true (by omega)
    have HBIG := Lib.hid (bigL p cap xs.length w)
    rw [hbig] at HBIG
    clear hcode hby hl hbig hZ hT
    generalize xs.length = n at *
    go_enter Tryd.func3, Tryd.ntmps3
    go_wp2_with fail
    refine HBIG.out.mono ?_
    rintro e wx ⟨rfl, rfl⟩
    go_wp2
    go_ret
    exact ⟨rfl, Below.refl _ _⟩
end Go.Proofs.YtnfmhiephdhopaaDoor
namespace Go.Proofs.YtnfmhiephdhopaaDoor
open Go.ChangeShapes Go.WideShapes Go.ChangeAt Go.WideMaps Go.WideElems Go.RowKit
set_option linter.unusedVariables false
theorem cU8c : Tryd.prog.cellsOf 5 = 1 := by kernel_rfl
theorem laidOut : laidOutB Tryd.prog = true := by kernel_rfl
theorem recCode : Tryd.prog.readableRec 22 = true := by kernel_rfl
theorem rowCode : 22 < Tryd.prog.types.size := of_decide_eq_true (by kernel_rfl)
set_option maxRecDepth 100000 in
/-- A slice of bytes that came in reads as bytes. -/
theorem code_open {H : Type} {enc : TypeId × Value → H} {W : World} {r : Reach} {b0 : Nat} {v : Value} {d : DataW H} {p : List MemPlace} (hval : Value.okWide Tryd.prog W r b0 22 v) (h : DataW.Trod enc Tryd.prog W 0 (fun _ => true) true 22 v d p) :
    ∃ a xs cap, v = .slice a xs.length cap ∧ Code W v xs ∧ ∀ x ∈ xs, 0 ≤ x ∧ x ≤ 255 := by
  obtain ⟨a, len, cap, rfl⟩ := okWide_slice Tryd.underlying22 hval
  obtain ⟨fuel, hf⟩ := h
  rcases open_ints Tryd.underlying22 Tryd.underlying5 cU8c hf with ⟨hcs, _⟩ | ⟨a', len', cap', zs, hcs, _, hl, hm, hz, _, hcell, hwz⟩
  · simp [Value.cells] at hcs
    obtain ⟨rfl, rfl, rfl⟩ := hcs
    exact ⟨none, [], 0, rfl, Or.inl ⟨rfl, none, 0, rfl⟩, by simp⟩
  · simp [Value.cells] at hcs
    obtain ⟨rfl, rfl, rfl⟩ := hcs
    rw [if_pos rfl] at hz
    have hb : ∀ x ∈ zs.take len, 0 ≤ x ∧ x ≤ 255 := fun x hx => by
      have h1 := hwz x (List.mem_of_mem_take hx)
      have e0 : IntKind.u8.min = 0 := by decide
      have e1 : IntKind.u8.max = 255 := by decide
      simp [Lit.wf] at h1; omega
    have hlen : (zs.take len).length = len := by rw [List.length_take]; omega
    refine ⟨some a', zs.take len, cap, by rw [hlen], ?_, hb⟩
    by_cases h0 : len = 0
    · subst h0
      exact Or.inl ⟨rfl, some a', cap, rfl⟩
    · obtain ⟨b, off, rfl, hc⟩ := ints_at hcell (by omega)
      refine Or.inr ⟨b, off, cap, by rw [hlen], by omega, ?_, ?_⟩
      · exact World.block_lt_of_cell? W _ (hc 0 (by omega))
      · intro j hj
        rw [hlen] at hj
        rw [hc j (by omega)]
        simp [List.getD, hj]
end Go.Proofs.YtnfmhiephdhopaaDoor
