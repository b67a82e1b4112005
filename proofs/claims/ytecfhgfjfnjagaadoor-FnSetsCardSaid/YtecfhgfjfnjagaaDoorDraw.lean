/-
  Numbers and texts that are drawn from bytes: which ranges they are in.
-/
import Derived.Test.YtecfhgfjfnjagaaDoorCur
import Derived.Test.YtecfhgfjfnjagaaDoorBytes
import Derived.WalkSpells
namespace Go.Proofs.YtecfhgfjfnjagaaDoor
open Go.RowKit
set_option linter.unusedVariables false
theorem below_small (w0 : World) (c : Nat) (v : Value) (xs : List Int) (w : World) (hC : Cur w0 c v xs w) (n : Int) (h1 : 1 ≤ n) (h2 : n ≤ 256) :
    Calls Tryd.prog 62 #[.pointer (some ⟨c, 0, none⟩), .int .i64 n] w (Drawn w0 c v xs w (n - 1)) := by
  have hn : (n == 0) = false := by rw [beq_eq_false_iff_ne]; omega
  go_enter Tryd.func62, Tryd.ntmps62
  go_wp2_with (go_at_call 72; refine (byte_any _ _ _ _ _ (by assumption)).mono ?_; rintro e w1 ⟨x, x0, x1, rfl, hC1, hg1⟩)
  go_ret
  exact ⟨_, Int.emod_nonneg _ (by omega), by have := Int.emod_lt_of_pos x (show 0 < n by omega); omega, rfl, hC1, hg1⟩
theorem below_large (w0 : World) (c : Nat) (v : Value) (xs : List Int) (w : World) (hC : Cur w0 c v xs w) (n : Int) (h1 : 256 < n) (h2 : n ≤ 1000000000) :
    Calls Tryd.prog 62 #[.pointer (some ⟨c, 0, none⟩), .int .i64 n] w (Drawn w0 c v xs w (n - 1)) := by
  have hn : (n == 0) = false := by rw [beq_eq_false_iff_ne]; omega
  go_enter Tryd.func62, Tryd.ntmps62
  go_wp2_with fail
  refine (byte_any _ _ _ _ _ hC).mono ?_
  rintro e w1 ⟨x, x0, x1, rfl, hC1, hg1⟩
  go_wp2_with fail
  refine (byte_any _ _ _ _ _ hC1).mono ?_
  rintro e w2 ⟨y, y0, y1, rfl, hC2, hg2⟩
  go_wp2_with fail
  refine (byte_any _ _ _ _ _ hC2).mono ?_
  rintro e w3 ⟨z, z0, z1, rfl, hC3, hg3⟩
  go_wp2_with fail
  refine (byte_any _ _ _ _ _ hC3).mono ?_
  rintro e w4 ⟨t, t0, t1, rfl, hC4, hg4⟩
  go_wp2
  go_ret
  exact ⟨_, Int.emod_nonneg _ (by omega), by have := Int.emod_lt_of_pos (x * 16777216 + y * 65536 + z * 256 + t) (show 0 < n by omega); omega, rfl, hC4, grown_chain hg1 (grown_chain hg2 (grown_chain hg3 hg4))⟩
theorem below_any (w0 : World) (c : Nat) (v : Value) (xs : List Int) (w : World) (hC : Cur w0 c v xs w) (n : Int) (h1 : 1 ≤ n) (h2 : n ≤ 1000000000) :
    Calls Tryd.prog 62 #[.pointer (some ⟨c, 0, none⟩), .int .i64 n] w (Drawn w0 c v xs w (n - 1)) := by
  by_cases h : n ≤ 256
  · exact below_small w0 c v xs w hC n h1 h
  · exact below_large w0 c v xs w hC n (by omega) h2
/-- A number between lo and hi is drawn. -/
def DrawnIn (w0 : World) (c : Nat) (v : Value) (xs : List Int) (w : World) (lo hi : Int) (e : Ending) (w' : World) : Prop :=
  ∃ x : Int, lo ≤ x ∧ x ≤ hi ∧ e = .returned (.int .i64 x) ∧ Cur w0 c v xs w' ∧ w.grownBy w' (some c)
theorem pick_any (w0 : World) (c : Nat) (v : Value) (xs : List Int) (w : World) (hC : Cur w0 c v xs w) (g : Nat) (L : List Int) (lo hi : Int) (hL : ∀ x ∈ L, lo ≤ x ∧ x ≤ hi) (h1 : 1 ≤ L.length) (h2 : L.length ≤ 256)
    (hg : w.heap[g]? = some (.cells (L.map (Value.int .i64)).toArray 3 (0, 0))) (hne : g ≠ c) :
    Calls Tryd.prog 53 #[.pointer (some ⟨c, 0, none⟩), .slice (some ⟨g, 0, none⟩) L.length L.length] w (DrawnIn w0 c v xs w lo hi) := by
  have HL := Lib.hid hL; clear hL
  have HG := Lib.hid hg; clear hg
  go_enter Tryd.func53, Tryd.ntmps53
  go_wp2_with fail
  refine (below_any w0 c v xs _ hC L.length (by omega) (by omega)).mono ?_
  rintro e w1 ⟨x, x0, x1, rfl, hC1, hg1⟩
  obtain ⟨k, rfl⟩ := Int.eq_ofNat_of_zero_le x0
  have hk : k < L.length := by omega
  have hcell : w1.cell? ⟨g, k, none⟩ = some (.int .i64 L[k]) := by
    have hgl := (Array.getElem?_eq_some_iff.1 HG.out).1
    have := cell_of_row w1 g k _ _ _ ((hg1.block g hgl (by intro e; simp at e; exact hne e)).trans HG.out)
    rw [this]; simp [hk]
  have hm := HL.out L[k] (List.getElem_mem hk)
  obtain ⟨m0, m1⟩ := hm
  generalize L[k] = y at hcell m0 m1
  go_wp2
  go_ret
  exact ⟨y, m0, m1, rfl, hC1, hg1⟩
/-- The numbers that are drawn with weight. -/
def picks : List Int := [-1, 0, 127, 128, 255, 256, 16383, 16384, 65535, 65536, 562949953421311, 562949953421312, 999999999, 1000000000, -999999999, 9223372036854775807, -9223372036854775808]
theorem picks_in : ∀ x ∈ picks, -9223372036854775808 ≤ x ∧ x ≤ 9223372036854775807 := by decide
theorem cur_alloc {w0 : World} {c : Nat} {v : Value} {xs : List Int} {w : World} (h : Cur w0 c v xs w) (o : Obj) : Cur w0 c v xs (w.alloc o) := by
  obtain ⟨h1, h2, h3, h4, ⟨i, hh, h5, h6⟩, h7⟩ := h
  refine ⟨h1, h2, h3, h4, ⟨i, hh, h5, ?_⟩, h7.alloc h7.size o⟩
  rw [Below.heap_alloc w o c (Array.getElem?_eq_some_iff.1 h6).1]; exact h6
theorem cur_lt {w0 : World} {c : Nat} {v : Value} {xs : List Int} {w : World} (h : Cur w0 c v xs w) : c < w.heap.size := by
  obtain ⟨_, _, _, _, ⟨i, hh, h5, h6⟩, _⟩ := h
  exact (Array.getElem?_eq_some_iff.1 h6).1
theorem mul_range (x y : Int) (x0 : 0 ≤ x) (x1 : x ≤ 999999999) (y0 : 0 ≤ y) (y1 : y ≤ 999999999) : 0 ≤ x * y ∧ x * y ≤ 999999998000000001 := by
  refine ⟨Int.mul_nonneg x0 y0, ?_⟩
  have := Int.mul_le_mul x1 y1 y0 (by omega)
  omega
theorem ownsB_grown {w w' : World} {B c : Nat} {v : Value} {xs : List Int} (h : OwnsB w B v xs) (hg : w.grownBy w' (some c)) (hc : c < B) : OwnsB w' B v xs := by
  refine h.kept hg ?_
  cases hv : v.ownBlock with
  | none => exact Or.inl rfl
  | some k => exact Or.inr (by intro e; have := (h.lt k hv).1; simp at e; omega)
theorem cur_below {w0 : World} {c : Nat} {v : Value} {xs : List Int} {w w' : World} {B : Nat} (h : Cur w0 c v xs w) (hc : c < B) (h0 : w0.heap.size ≤ B) (hb : Below B w w') : Cur w0 c v xs w' := by
  obtain ⟨h1, h2, h3, h4, ⟨i, hh, h5, h6⟩, h7⟩ := h
  exact ⟨h1, h2, h3, h4, ⟨i, hh, h5, (hb.block c hc).trans h6⟩, h7.trans (hb.mono h0)⟩
theorem grown_below {a b b' : World} {c : Nat} (h : a.grownBy b (some c)) (hb : Below a.heap.size b b') : a.grownBy b' (some c) :=
  ⟨hb.os.trans h.os, hb.tape.trans h.tape, hb.output.trans h.output, Nat.le_trans h.size hb.size, fun k hk hn => (hb.block k hk).trans (h.block k hk hn)⟩
/-- A text of at most most bytes is drawn. -/
def DrawnText (w0 : World) (c : Nat) (v : Value) (xs : List Int) (w : World) (most : Nat) (e : Ending) (w' : World) : Prop :=
  ∃ bs : List Int, bs.length ≤ most ∧ e = .returned (.string (strOfNums bs)) ∧ Cur w0 c v xs w' ∧ w.grownBy w' (some c)
end Go.Proofs.YtecfhgfjfnjagaaDoor
