/-
 Texts of the proof, merged: OrdMark.
-/
import Derived.Test.YtededfficggkaaaDoorI11
namespace Go.Proofs.YtededfficggkaaaDoor
open Go.RowKit
set_option linter.unusedVariables false
set_option linter.unusedSimpArgs false
/-- The slice v owns the numbers xs, in a block of an order's type. -/
def OwnsX (w : World) (B : Nat) (v : Value) (xs : List Int) : Prop := w.ownsRow B 113 1 v xs.length (xs.map (Value.int .i64))
theorem own_slX {w : World} {F : Nat → Prop} {v : Value} {xs : List Int} {B : Nat} (h : OwnsX w B v xs) (hF : ∀ b, v.ownBlock = some b → F b) : SlO 113 tInt w F v xs := by
 refine ⟨_, fun j => [.int .i64 (xs.getD j 0)], fun _ _ => False, row_low h (Nat.zero_le _), hF, fun j hj => ⟨fun i hi => ?_, rfl, fun b hb => False.elim hb⟩, fun i j _ _ _ b hb => False.elim hb⟩
 have hi0 : i < 1 := hi
 obtain rfl : i = 0 := by omega
 have e : j * tInt.n + 0 = j := by show j * 1 + 0 = _; omega
 rw [e]
 simp [List.getD, hj]
theorem slX_block {w : World} {b : Nat} {x y z : Int} (h : w.heap[b]? = some (.cells #[.int .i64 x, .int .i64 y, .int .i64 z] 113 (0, 0))) : SlO 113 tInt w (fun c => c = b) (.slice (some ⟨b, 0, none⟩) 3 3) [x, y, z] :=
 own_slX (B := 0) ⟨rfl, Or.inr ⟨b, 3, _, rfl, Nat.zero_le _, h, Nat.le_refl _, by decide, rfl, rfl⟩⟩ (fun c hc => by simp [Value.ownBlock] at hc; exact hc.symm)
end Go.Proofs.YtededfficggkaaaDoor
