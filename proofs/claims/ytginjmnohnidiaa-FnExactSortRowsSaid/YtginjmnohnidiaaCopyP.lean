/-
  The walk of copyList at numbers: a list of the same numbers in memory of its own.
-/
import Derived.Test.YtginjmnohnidiaaFindSpec
import Derived.Test.YtginjmnohnidiaaAppInts
namespace Go.Proofs.Ytginjmnohnidiaa
open Go.RowKit
set_option linter.unusedVariables false
set_option linter.unusedSimpArgs false
set_option maxHeartbeats 2000000 in
set_option maxRecDepth 100000 in
theorem copyInts_any (v : Value) (xs : List Int) (w : World) (h : Ints w v xs) (hn : xs.length ≤ 1048576) :
    Calls Try.prog 73 #[v] w (FreshInts w xs) := by
  have H := Lib.hid h
  have HN := Lib.hid hn
  obtain ⟨a, cap, rfl⟩ := ints_len h
  clear h hn
  go_enter Try.func73, Try.ntmps73
  go_wp2_with (at_builtin; refine wpl_app_ints rfl _ (.tmp 3) rfl w.heap.size _ _ [] xs rfl rfl (ownsN_nil _ _) H.out (Nat.le_refl _) (by have := HN.out; simp; omega) ?_)
  intro u w4 oB bB
  obtain ⟨pa, pc, rfl⟩ := ints_len (ownsN_ints oB)
  go_wp2
  go_ret
  exact ⟨_, rfl, oB, bB⟩
end Go.Proofs.Ytginjmnohnidiaa
