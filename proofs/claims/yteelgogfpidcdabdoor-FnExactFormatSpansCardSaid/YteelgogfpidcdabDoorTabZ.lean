/-
  The library's table of trailing zeros, as its text lays it; math/bits.TrailingZeros32 over it.
-/
import Derived.Test.YteelgogfpidcdabDoorRows
import Derived.WalkKit
import Derived.Below
import Derived.Lib.Hide
import Derived.Lib.AppendIntMem
import Derived.Lib.TrailingZeros
import Derived.Shelf.Spec.TrailingZeros
namespace Go.Proofs.YteelgogfpidcdabDoor
open Go.RowKit
set_option linter.unusedVariables false
def tzL : List Int := Lib.deBruijn32tab.map fun n : Nat => (n : Int)
/-- The table of trailing zeros reads as its text lays it. -/
def TabZ (w : World) : Prop := Lib.TabIs Tryd.prog w "math/bits.deBruijn32tab" .u8 tzL
theorem TabZ.on {w w' : World} (h : TabZ w) (hb : Below w.heap.size w w') : TabZ w' := Lib.tabBelow_of_tabIs h w' hb
theorem zcell {w : World} (h : TabZ w) (i : Nat) (hi : i < 32) : w.cell? ⟨0, i, none⟩ = some (.int .u8 ((Lib.deBruijn32tab.getD i 0 : Nat) : Int)) := by
  have := Lib.TabIs.cell h (show Tryd.prog.globalNamed "math/bits.deBruijn32tab" = some 0 by kernel_rfl) i (by simpa [tzL, Lib.deBruijn32tab] using hi)
  rw [this]
  have hl : i < Lib.deBruijn32tab.length := by simpa [Lib.deBruijn32tab] using hi
  simp only [tzL, List.getD, List.getElem?_map, List.getElem?_eq_getElem hl, Option.map_some, Option.getD_some]
theorem tz32_zero (w : World) : Calls Tryd.prog 39 #[.int .u32 0] w fun e w' => e = .returned (.int .i64 32) ∧ w' = w := by
  go_enter Tryd.func39, Tryd.ntmps39
  go_wp2
  go_ret
  exact ⟨rfl, rfl⟩
theorem tz32_at (x k idx : Nat) (w : World) (hx0 : ((x : Int) == 0) = false)
    (key : bits BinOp.and IntKind.u32 (x : Int) (-(x : Int) % 4294967296) * 125613361 % 4294967296 / 134217728 = (idx : Int))
    (hi : idx < 32) (hk : k < 32) (hcell : w.cell? ⟨0, idx, none⟩ = some (.int .u8 k)) :
    Calls Tryd.prog 39 #[.int .u32 x] w fun e w' => e = .returned (.int .i64 k) ∧ w' = w := by
  go_enter Tryd.func39, Tryd.ntmps39
  go_wp2_with (simp only [key])
  go_ret
  exact ⟨rfl, rfl⟩
/-- math/bits.TrailingZeros32, at every x. -/
theorem tz32 (x : Nat) (hx : x < 4294967296) (w : World) (hT : TabZ w) : Calls Tryd.prog 39 #[.int .u32 x] w fun e w' => e = .returned (.int .i64 (Lib.ctz 32 x)) ∧ w' = w := by
  by_cases hx0 : x = 0
  · subst hx0
    exact tz32_zero w
  · obtain ⟨hlow, hk⟩ := Lib.lowest_bit 32 x hx0 hx
    obtain ⟨hi, htab⟩ := Lib.deBruijn32_at _ hk
    have hcell := zcell hT _ hi
    rw [htab] at hcell
    exact tz32_at x _ _ w (by simp; omega) (tz32_key x _ hx hx0 hlow) hi hk hcell
end Go.Proofs.YteelgogfpidcdabDoor
