/-
  The walks of the exact laws of IsSet and HasMember: if the program's function answers what the specification's does, the law returns true.
-/
import Derived.Test.YtededfficggkaaaSetSpec
namespace Go.Proofs.Ytededfficggkaaa
open Go.RowKit
set_option linter.unusedVariables false
theorem specHasB (va : Value) (a : List Int) (x : Int) (w : World) (h : Ints w va a) (hn : a.length ≤ 1048576) : Calls Try.prog 17 #[va, .int .i64 x] w fun e w' => e = .returned (.bool (decide (x ∈ a))) ∧ Below w.heap.size w w' :=
  (specHas va a x w h hn).mono fun e w' g => ⟨g.1, by rw [← g.2]; exact Below.refl _ _⟩
end Go.Proofs.Ytededfficggkaaa
