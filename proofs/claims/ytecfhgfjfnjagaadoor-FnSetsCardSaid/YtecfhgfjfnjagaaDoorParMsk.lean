/-
  The walk of the program's parseMask.
-/
import Derived.Test.YtecfhgfjfnjagaaDoorSplit
namespace Go.Proofs.YtecfhgfjfnjagaaDoor
open Go.RowKit Go.Shelf
attribute [local go_sem] Oper.semAt_some
set_option linter.unusedVariables false
/-- What parseMask answers. -/
def mskAns (l : List UInt8) : Value := if l = [110, 111, 110, 101] then .tuple #[.int .u32 0, .bool true] else match mskGo 0 (cutL 32 l) with
  | none => .tuple #[.int .u32 0, .bool false]
  | some m => .tuple #[.int .u32 (m : Nat), .bool true]
theorem boxed_below {W W' : World} {C j : Nat} {t : TypeId} {v : Value} (h : Boxed W j t v) (hj : j < C) (hb : Below C W W') : Boxed W' j t v := (hb.block j hj).trans h
theorem mskAns_no {l : List UInt8} (h : ¬ l = [110, 111, 110, 101]) (hg : mskGo 0 (cutL 32 l) = none) : mskAns l = .tuple #[.int .u32 0, .bool false] := by unfold mskAns; rw [if_neg h, hg]
theorem mskAns_yes {l : List UInt8} {m : Nat} (h : ¬ l = [110, 111, 110, 101]) (hg : mskGo 0 (cutL 32 l) = some m) : mskAns l = .tuple #[.int .u32 (m : Nat), .bool true] := by unfold mskAns; rw [if_neg h, hg]
theorem mskGo_hit {m : Nat} {P : List (List UInt8)} {k : Nat} (hk : k < P.length) (h : partOk (cutL 45 (P.getD k [])) = true) : mskGo m (P.drop k) = mskGo (m ||| partMask (cutL 45 (P.getD k []))) (P.drop (k + 1)) := by
  have e : P.getD k [] = P[k] := by simp [List.getD, hk]
  rw [e] at h
  rw [List.drop_eq_getElem_cons hk, e]
  show (if partOk (cutL 45 P[k]) = true then _ else _) = _
  rw [if_pos h]
theorem mskGo_miss {m : Nat} {P : List (List UInt8)} {k : Nat} (hk : k < P.length) (h : partOk (cutL 45 (P.getD k [])) = false) : mskGo m (P.drop k) = none := by
  have e : P.getD k [] = P[k] := by simp [List.getD, hk]
  rw [e] at h
  rw [List.drop_eq_getElem_cons hk]
  show (if partOk (cutL 45 P[k]) = true then _ else _) = _
  rw [h]; rfl
theorem partMask_lt {ps : List (List UInt8)} (h : partOk ps = true) : partMask ps < 16777216 := by
  obtain ⟨f, t, _, h2, _, _, h5, _⟩ := partOk_range h
  rw [h5]; exact rangeM_lt h2
end Go.Proofs.YtecfhgfjfnjagaaDoor
