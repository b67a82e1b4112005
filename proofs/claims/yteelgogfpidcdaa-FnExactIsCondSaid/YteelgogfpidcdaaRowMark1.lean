/-
  Marking one row, and reading the marks back.
-/
import Derived.Test.YteelgogfpidcdaaRowMark
import Derived.Test.YteelgogfpidcdaaLawInts
import Derived.Test.YteelgogfpidcdaaRowVal
namespace Go.Proofs.Yteelgogfpidcdaa
open Go.RowKit
set_option linter.unusedVariables false
set_option linter.unusedSimpArgs false
/-- Marking the values of a row that the call made writes into their block alone. -/
def MarkedRow (w : World) (B : Nat) (v : Value) (n : Nat) (k : Int) (e : Ending) (w' : World) : Prop :=
  e = .returned (.int .i64 (k + (n : Int))) ∧ OwnsN w' B v (marks k n) ∧ Below B w w' ∧ ∀ j, j < w.heap.size → some j ≠ v.ownBlock → w'.heap[j]? = w.heap[j]?
set_option maxHeartbeats 4000000 in
set_option maxRecDepth 100000 in
theorem markRow_any (id : Int) (v : Value) (xs : List Int) (B : Nat) (k : Int) (w : World) (h : OwnsN w B v xs) (hB : B ≤ w.heap.size) (hn : xs.length ≤ 1048576) (k0 : 0 ≤ k) (k1 : k ≤ 16777216) :
    Calls Try.prog 33 #[.agg #[.int .i64 id, v], .int .i64 k] w (MarkedRow w B v xs.length k) := by
  obtain ⟨va, vcap, rfl⟩ := ints_len (ownsN_ints h)
  have hb : Below w.heap.size w (w.alloc (.cells #[.int .i64 id, .slice va xs.length vcap] 51)) := (Below.refl _ w).alloc (Nat.le_refl _) _
  have HM := Lib.hid (markIntS_any (.slice va xs.length vcap) xs B k _ (ownsN_below h hb) hn k0 (by omega))
  have HB := Lib.hid hb
  have HO := Lib.hid h
  have HBW := Lib.hid hB
  clear h hb hn k0 k1 hB
  go_enter Try.func33, Try.ntmps33
  go_wp2_with fail
  refine HM.out.mono ?_
  rintro e w' ⟨rfl, og, hg⟩
  have hz : w.heap.size < (w.alloc (.cells #[.int .i64 id, .slice va xs.length vcap] 51)).heap.size := by simp
  have hlow : ∀ q, (Value.slice va xs.length vcap).ownBlock = some q → B ≤ q := fun q hq => (HO.out.lt q hq).1
  have b2 : Below B w w' := (HB.out.mono HBW.out).grown hg (Nat.le_trans HBW.out HB.out.size) hlow
  have k2 : ∀ j, j < w.heap.size → some j ≠ (Value.slice va xs.length vcap).ownBlock → w'.heap[j]? = w.heap[j]? := fun j hj hne => (hg.block j (Nat.lt_trans hj hz) hne).trans (HB.out.block j hj)
  clear hz hlow hg HM
  go_wp2
  go_ret
  exact ⟨rfl, og, b2, k2⟩
theorem markRow_only (id : Int) (v : Value) (xs : List Int) (B hi : Nat) (k : Int) (w : World) (h : OwnsN w B v xs) (hlt : ∀ b, v.ownBlock = some b → b < hi) (hB : B ≤ w.heap.size) (hn : xs.length ≤ 1048576) (k0 : 0 ≤ k) (k1 : k ≤ 16777216) :
    Calls Try.prog 33 #[.agg #[.int .i64 id, v], .int .i64 k] w fun e w' => e = .returned (.int .i64 (k + (xs.length : Int))) ∧ OwnsN w' B v (marks k xs.length) ∧ Only B hi w w' := by
  have HL := Lib.hid h.lt
  refine (markRow_any id v xs B k w h hB hn k0 k1).mono ?_
  rintro e w' ⟨h1, h2, h3, h4⟩
  exact ⟨h1, h2, h3.os, h3.tape, h3.output, h3.size, fun j hj hn => h4 j hj (fun e => by have := (HL.out j e.symm).1; have := hlt j e.symm; omega)⟩
end Go.Proofs.Yteelgogfpidcdaa
