/-
  The walk of the specification's FormatSet: it returns the text 'fmtSet'.
-/
import Derived.Test.YtaiaigenobeleaaDoorSetSpec
import Derived.Test.YtaiaigenobeleaaDoorFmtWalks
import Derived.Test.YtaiaigenobeleaaDoorRunMath
import Derived.IntWalk
namespace Go.Proofs.YtaiaigenobeleaaDoor
open Go.RowKit
set_option linter.unusedVariables false
/-- A text as a string. -/
def strB (l : List UInt8) : ByteArray := ⟨l.toArray⟩
theorem strB_size (l : List UInt8) : (strB l).size = l.length := by simp [strB, ByteArray.size]
theorem strB_add (a b : List UInt8) (h : a.length + b.length ≤ 1073741824) (w : World) : (Op.stringOp .add (strB a) (strB b)).run Tryd.prog w = .ok (.string (strB (a ++ b))) w := by
  rw [run_string_add_sum w _ _ (by rw [strB_size, strB_size]; omega)]
  congr 2
theorem strB_toList (l : List UInt8) : (strB l).toList = l := by rw [ByteArray.toList_eq]; rfl
theorem strB_none {l : List UInt8} (h : l = []) : (strB l).toList = [] ∧ (strB l).toList.isEmpty = true := by rw [strB_toList, h]; exact ⟨rfl, rfl⟩
theorem strB_some {l : List UInt8} (h : l ≠ []) : ¬ (strB l).toList = [] ∧ (strB l).toList.isEmpty = false := by
  rw [strB_toList]
  cases l with
  | nil => exact absurd rfl h
  | cons a r => exact ⟨by simp, rfl⟩
theorem fmtB (n : Int) (w : World) (h0 : 0 ≤ n) (h1 : n ≤ 23) : Calls Tryd.prog 17 #[.int .i64 n] w fun e w' => e = .returned (.string (strB (Lib.itoa n))) ∧ Below w.heap.size w w' := specFmt n w (by omega) (by omega)
theorem set_ge {l : List Int} (h : SetL l) : ∀ i, i < l.length → (i : Int) ≤ l.getD i 0 := by
  intro i
  induction i with
  | zero => intro hi; have := h.1 0 hi; omega
  | succ i ih => intro hi; have h1 := ih (by omega); have h2 := h.2 i hi; omega
theorem set_len {l : List Int} (h : SetL l) : l.length ≤ 24 := by
  by_cases h0 : l.length = 0
  · omega
  · have h1 := set_ge h (l.length - 1) (by omega)
    have h2 := h.1 (l.length - 1) (by omega)
    omega
/-- FormatSet. -/
def fmtSet (l : List Int) : List UInt8 := if setB l then fmtRuns l else []
theorem fmtSet_no {l : List Int} (h : setB l = false) : fmtSet l = [] := by unfold fmtSet; rw [h]; rfl
theorem fmtSet_nil : fmtSet [] = [110, 111, 110, 101] := rfl
theorem fmtSet_yes {l : List Int} (h : setB l = true) (h0 : l ≠ []) : fmtSet l = glue [] (runs l) := by unfold fmtSet fmtRuns; rw [h, if_neg h0]; rfl
theorem glue_one (s : List UInt8) (r : Int × Int) (t : List (Int × Int)) : glue s (r :: t) = glue ((if s = [] then s else s ++ [32]) ++ runText r) t := rfl
theorem text_one {x y : Int} (h : x = y) : runText (x, y) = Lib.itoa x := by unfold runText; rw [if_pos h]
theorem text_two {x y : Int} (h : x ≠ y) : runText (x, y) = Lib.itoa x ++ 45 :: Lib.itoa y := by unfold runText; rw [if_neg h]
theorem ret_s {a b : List UInt8} (h : a = b) : Ending.returned (.string (strB a)) = .returned (.string (strB b)) := by rw [h]
theorem run_up (l : List Int) (i n : Nat) (h : ∀ j, j < n → l.getD (i + j + 1) 0 = l.getD (i + j) 0 + 1) : l.getD (i + n) 0 = l.getD i 0 + n := by
  induction n with
  | zero => simp
  | succ n ih => have h1 := ih (fun j hj => h j (by omega)); have h2 := h n (by omega); rw [show i + (n + 1) = i + n + 1 by omega, h2, h1]; omega
theorem below_step {q : Nat} {w wr w5 : World} (h : Below w.heap.size w wr) (h5 : Below (wr.drewN q).heap.size (wr.drewN q) w5) : Below w.heap.size w w5 := by
  have h2 : Below w.heap.size w (wr.drewN q) := below_same h rfl rfl rfl rfl
  exact h2.trans (h5.mono h2.size)
end Go.Proofs.YtaiaigenobeleaaDoor
