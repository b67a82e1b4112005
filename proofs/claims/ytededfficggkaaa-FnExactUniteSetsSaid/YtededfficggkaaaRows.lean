/-
  No cell of these rows narrows 'for every input' (looked for: loops, veiled, ifaces, maps, wideKeys, modest, calm, conditions, laid).
  DERIVED. THE GIVEN ROWS OF THIS SEAT. 3 by the template 'for every input the law returns true; each argument reads behind the call as it read before'; 0 by the template 'total and deterministic' (their statements: YtededfficggkaaaTotals.lean).
  GIVEN WITH THE SEED: the statements are not yours to turn. If you find one false, say at which input.
  Laid BY PROGRAM, IN A SANDBOX (cutbox-rows.mjs): the forced cells as the released guide's own fill.sh prints them over the translation a7382fd4bb34d22b… (all of the seat's roots in one cut). By AI agents, Wed Nov 11 2026. No macro, syntax, notation, axiom, sorry.
-/
import Derived.Test.YtededfficggkaaaChecked
import GoSem.Claim
import GoSem.ClaimJoined
import GoSem.ClaimMapViews
import Derived.JoinedTies
import Derived.KernelRfl
namespace Go.Proofs.Ytededfficggkaaa
/- THE CELL 'sum', in the pinned program and in every row, IS THE sha256 OF THE DUMP (.gsa) THAT YtededfficggkaaaProg.lean LOADS. Nothing in Lean hashes anything: it is a label: what it is worth is what the hold of that sum in a sandbox is worth. -/
noncomputable def Try.pinned : Pinned := { name := "ytededfficggkaaa", sum := "a7382fd4bb34d22b505dc03403f46d01f9a393a0654fdc47b61bc66916566ddf", checked := Try.checked }
namespace Rows
def none {H : Type} : Left H := { results := [], args := [] }

/-- 'laws.FnExactUniteSets': WHATEVER THE INPUT: true; the input reads as it did. -/
def fnExactUniteSetsSpec : ChangeSpec := { name := "fnExactUniteSets", fn := fun _ => fun
  | [d1, d2] => { results := [.lit (.bool true)], args := [d1, d2] }
  | _ => none }
def fnExactUniteSetsRow : OpenClaim := { program := "ytededfficggkaaa", sum := "a7382fd4bb34d22b505dc03403f46d01f9a393a0654fdc47b61bc66916566ddf", func := "loop.example/g01986/laws.FnExactUniteSets", spec := "fnExactUniteSets", apart := false }
def FnExactUniteSetsSaid : Prop := fnExactUniteSetsRow.holds Try.pinned (OpenSpec.ofChange fnExactUniteSetsSpec)

/-- ITS FALSE NEIGHBOUR: 'it returns false'. Refute it at one input. -/
def fnExactUniteSetsWrong : ChangeSpec := { name := "fnExactUniteSets", fn := fun _ => fun
  | [d1, d2] => { results := [.lit (.bool false)], args := [d1, d2] }
  | _ => none }
def FnExactUniteSetsWrongFalsely : Prop := fnExactUniteSetsRow.holds Try.pinned (OpenSpec.ofChange fnExactUniteSetsWrong)

/-- 'laws.FnExactMeetSets': WHATEVER THE INPUT: true; the input reads as it did. -/
def fnExactMeetSetsSpec : ChangeSpec := { name := "fnExactMeetSets", fn := fun _ => fun
  | [d1, d2] => { results := [.lit (.bool true)], args := [d1, d2] }
  | _ => none }
def fnExactMeetSetsRow : OpenClaim := { program := "ytededfficggkaaa", sum := "a7382fd4bb34d22b505dc03403f46d01f9a393a0654fdc47b61bc66916566ddf", func := "loop.example/g01986/laws.FnExactMeetSets", spec := "fnExactMeetSets", apart := false }
def FnExactMeetSetsSaid : Prop := fnExactMeetSetsRow.holds Try.pinned (OpenSpec.ofChange fnExactMeetSetsSpec)

/-- ITS FALSE NEIGHBOUR: 'it returns false'. Refute it at one input. -/
def fnExactMeetSetsWrong : ChangeSpec := { name := "fnExactMeetSets", fn := fun _ => fun
  | [d1, d2] => { results := [.lit (.bool false)], args := [d1, d2] }
  | _ => none }
def FnExactMeetSetsWrongFalsely : Prop := fnExactMeetSetsRow.holds Try.pinned (OpenSpec.ofChange fnExactMeetSetsWrong)

/-- 'laws.FnExactSubtractSets': WHATEVER THE INPUT: true; the input reads as it did. -/
def fnExactSubtractSetsSpec : ChangeSpec := { name := "fnExactSubtractSets", fn := fun _ => fun
  | [d1, d2] => { results := [.lit (.bool true)], args := [d1, d2] }
  | _ => none }
def fnExactSubtractSetsRow : OpenClaim := { program := "ytededfficggkaaa", sum := "a7382fd4bb34d22b505dc03403f46d01f9a393a0654fdc47b61bc66916566ddf", func := "loop.example/g01986/laws.FnExactSubtractSets", spec := "fnExactSubtractSets", apart := false }
def FnExactSubtractSetsSaid : Prop := fnExactSubtractSetsRow.holds Try.pinned (OpenSpec.ofChange fnExactSubtractSetsSpec)

/-- ITS FALSE NEIGHBOUR: 'it returns false'. Refute it at one input. -/
def fnExactSubtractSetsWrong : ChangeSpec := { name := "fnExactSubtractSets", fn := fun _ => fun
  | [d1, d2] => { results := [.lit (.bool false)], args := [d1, d2] }
  | _ => none }
def FnExactSubtractSetsWrongFalsely : Prop := fnExactSubtractSetsRow.holds Try.pinned (OpenSpec.ofChange fnExactSubtractSetsWrong)

/- THE SECOND FORM. 'bulk': how many values and letters a reading holds, each counted each time it is reached (what is shared counts as often as it is met; a slice's spare places count too). A statement '..UptoSaid' is the law's where the arguments, and the package variables that the reading takes, are together of bulk at most 1048576: NARROWER than '..Said'. Prove '..Said' where nothing that the law and all that it calls make is longer than what came in: it says more and counts as full. Else prove '..UptoSaid'. A law counts once. -/
mutual
def uptoBulk {H : Type} : DataW H → Nat
  | .lit (.string bytes) => bytes.length + 1
  | .lit _ => 1
  | .nil => 1
  | .ptr d => uptoBulk d + 1
  | .slice elems spare => uptoBulkAll elems + uptoBulkAll spare + 1
  | .agg parts => uptoBulkAll parts + 1
  | .iface _ d => uptoBulk d + 1
  | .map entries => uptoBulkEntries entries + 1
  | .held _ => 1
def uptoBulkAll {H : Type} : List (DataW H) → Nat
  | [] => 0
  | d :: r => uptoBulk d + uptoBulkAll r
def uptoBulkEntries {H : Type} : List (Lit × DataW H) → Nat
  | [] => 0
  | x :: r => uptoBulkEntry x + uptoBulkEntries r
def uptoBulkEntry {H : Type} : Lit × DataW H → Nat
  | (.string bytes, d) => bytes.length + uptoBulk d + 1
  | (_, d) => uptoBulk d + 1
 end
def uptoSmall : (H : Type) → List (DataW H) → Bool := fun _ ds => decide (uptoBulkAll ds ≤ 1048576)
def OpenSpec.upto (s : _root_.Go.ChangeSpec) : _root_.Go.OpenSpec := { _root_.Go.OpenSpec.ofChange s with cond := some uptoSmall }

/-- 'laws.FnExactUniteSets', WHERE WHAT IT READS IS OF BULK AT MOST 1048576: true; the input reads as it did. -/
def fnExactUniteSetsUptoRow : OpenClaim := { program := "ytededfficggkaaa", sum := "a7382fd4bb34d22b505dc03403f46d01f9a393a0654fdc47b61bc66916566ddf", func := "loop.example/g01986/laws.FnExactUniteSets", spec := "fnExactUniteSets", apart := false, narrowed := true }
def FnExactUniteSetsUptoSaid : Prop := fnExactUniteSetsUptoRow.holds Try.pinned (OpenSpec.upto fnExactUniteSetsSpec)

/-- 'laws.FnExactMeetSets', WHERE WHAT IT READS IS OF BULK AT MOST 1048576: true; the input reads as it did. -/
def fnExactMeetSetsUptoRow : OpenClaim := { program := "ytededfficggkaaa", sum := "a7382fd4bb34d22b505dc03403f46d01f9a393a0654fdc47b61bc66916566ddf", func := "loop.example/g01986/laws.FnExactMeetSets", spec := "fnExactMeetSets", apart := false, narrowed := true }
def FnExactMeetSetsUptoSaid : Prop := fnExactMeetSetsUptoRow.holds Try.pinned (OpenSpec.upto fnExactMeetSetsSpec)

/-- 'laws.FnExactSubtractSets', WHERE WHAT IT READS IS OF BULK AT MOST 1048576: true; the input reads as it did. -/
def fnExactSubtractSetsUptoRow : OpenClaim := { program := "ytededfficggkaaa", sum := "a7382fd4bb34d22b505dc03403f46d01f9a393a0654fdc47b61bc66916566ddf", func := "loop.example/g01986/laws.FnExactSubtractSets", spec := "fnExactSubtractSets", apart := false, narrowed := true }
def FnExactSubtractSetsUptoSaid : Prop := fnExactSubtractSetsUptoRow.holds Try.pinned (OpenSpec.upto fnExactSubtractSetsSpec)

end Rows
end Go.Proofs.Ytededfficggkaaa
