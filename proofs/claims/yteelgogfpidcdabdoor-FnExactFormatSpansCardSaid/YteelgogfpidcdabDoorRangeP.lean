/-
  The program's text of a range of values.
-/
import Derived.Test.YteelgogfpidcdabDoorFmtSet
namespace Go.Proofs.YteelgogfpidcdabDoor
open Go.RowKit
set_option linter.unusedVariables false
set_option linter.unusedSimpArgs false
theorem fmtRg (n : Int) (w : World) (h0 : 0 ≤ n) (h1 : n ≤ 999) (hT : Tab w) : Calls Tryd.prog 24 #[.int .i64 n] w fun e w' => e = .returned (.string (strB (Lib.itoa n))) ∧ Below w.heap.size w w' := implFmt n w (by omega) (by omega) hT
set_option maxHeartbeats 4000000 in
set_option maxRecDepth 100000 in
theorem formatRange_any (lo hi : Int) (w : World) (l0 : 0 ≤ lo) (l1 : lo ≤ 999) (h0 : 0 ≤ hi) (h1 : hi ≤ 999) (hT : Tab w) :
    Calls Tryd.prog 15 #[.int .i64 lo, .int .i64 hi] w fun e w' => e = .returned (.string (strB (Lib.itoa lo ++ [46, 46] ++ Lib.itoa hi))) ∧ Below w.heap.size w w' := by
  have HA := Lib.hid (fun w h => fmtRg lo w l0 l1 h)
  have HB := Lib.hid (fun w h => fmtRg hi w h0 h1 h)
  have ll := Lib.itoa_length_le lo (by omega) (by omega)
  have hl := Lib.itoa_length_le hi (by omega) (by omega)
  have HT := Lib.hid hT
  generalize Lib.itoa lo = t1 at *
  generalize Lib.itoa hi = t2 at *
  have dA : ∀ w, (Op.stringOp .add (strB t1) ⟨#[46, 46]⟩).run Tryd.prog w = .ok (.string (strB (t1 ++ [46, 46]))) w := strB_add t1 [46, 46] (by simp; omega)
  have dB : ∀ w, (Op.stringOp .add (strB (t1 ++ [46, 46])) (strB t2)).run Tryd.prog w = .ok (.string (strB (t1 ++ [46, 46] ++ t2))) w := strB_add (t1 ++ [46, 46]) t2 (by simp; omega)
  generalize t1 ++ [46, 46] ++ t2 = t4 at *
  generalize t1 ++ [46, 46] = t3 at *
  clear ll hl hT l0 l1 h0 h1
  go_enter Tryd.func15, Tryd.ntmps15
  go_wp2_with fail
  refine (HA.out _ HT.out).mono ?_
  rintro e w1 ⟨rfl, b1⟩
  go_wp2_with fail
  refine (HB.out _ (HT.out.on b1)).mono ?_
  rintro e w2 ⟨rfl, b2⟩
  have b3 := b1.trans (b2.mono b1.size)
  go_wp2
  go_ret
  exact ⟨rfl, b3⟩
end Go.Proofs.YteelgogfpidcdabDoor
