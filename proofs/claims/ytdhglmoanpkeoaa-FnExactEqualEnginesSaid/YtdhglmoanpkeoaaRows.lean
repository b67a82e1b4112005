/-
  No cell of these rows narrows 'for every input' (looked for: loops, veiled, ifaces, maps, wideKeys, modest, calm, conditions, laid).
  DERIVED. THE GIVEN ROWS OF THIS SEAT. 4 by the template 'for every input the law returns true; each argument reads behind the call as it read before'; 0 by the template 'total and deterministic' (their statements: YtdhglmoanpkeoaaTotals.lean).
  GIVEN WITH THE SEED: the statements are not yours to turn. If you find one false, say at which input.
  Laid BY PROGRAM, IN A SANDBOX (cutbox-rows.mjs): the forced cells as the released guide's own fill.sh prints them over the translation 61a01aeef9ca553c… (all of the seat's roots in one cut). By AI agents, Wed Nov 11 2026. No macro, syntax, notation, axiom, sorry.
-/
import Derived.Test.YtdhglmoanpkeoaaChecked
import GoSem.Claim
import GoSem.ClaimJoined
import GoSem.ClaimMapViews
import Derived.JoinedTies
import Derived.KernelRfl
namespace Go.Proofs.Ytdhglmoanpkeoaa
/- THE CELL 'sum', in the pinned program and in every row, IS THE sha256 OF THE DUMP (.gsa) THAT YtdhglmoanpkeoaaProg.lean LOADS. Nothing in Lean hashes anything: it is a label: what it is worth is what the hold of that sum in a sandbox is worth. -/
noncomputable def Try.pinned : Pinned := { name := "ytdhglmoanpkeoaa", sum := "61a01aeef9ca553ca73cb19239af208fa26cb1d642f2ed2d45af0c728a0bd685", checked := Try.checked }
namespace Rows
def none {H : Type} : Left H := { results := [], args := [] }

/-- 'laws.FnExactSegmentRows': WHATEVER THE INPUT: true; the input reads as it did. -/
def fnExactSegmentRowsSpec : ChangeSpec := { name := "fnExactSegmentRows", fn := fun _ => fun
  | [d1, d2, d3] => { results := [.lit (.bool true)], args := [d1, d2, d3] }
  | _ => none }
def fnExactSegmentRowsRow : OpenClaim := { program := "ytdhglmoanpkeoaa", sum := "61a01aeef9ca553ca73cb19239af208fa26cb1d642f2ed2d45af0c728a0bd685", func := "loop.example/g01986/laws.FnExactSegmentRows", spec := "fnExactSegmentRows", unfollowed := true, recurses := true, apart := false }
def FnExactSegmentRowsSaid : Prop := fnExactSegmentRowsRow.holds Try.pinned (OpenSpec.ofChange fnExactSegmentRowsSpec)

/-- ITS FALSE NEIGHBOUR: 'it returns false'. Refute it at one input. -/
def fnExactSegmentRowsWrong : ChangeSpec := { name := "fnExactSegmentRows", fn := fun _ => fun
  | [d1, d2, d3] => { results := [.lit (.bool false)], args := [d1, d2, d3] }
  | _ => none }
def FnExactSegmentRowsWrongFalsely : Prop := fnExactSegmentRowsRow.holds Try.pinned (OpenSpec.ofChange fnExactSegmentRowsWrong)

/-- 'laws.FnExactNewEngine': WHATEVER THE INPUT: true; the input reads as it did. -/
def fnExactNewEngineSpec : ChangeSpec := { name := "fnExactNewEngine", fn := fun _ => fun
  | [d] => { results := [.lit (.bool true)], args := [d] }
  | _ => none }
def fnExactNewEngineRow : OpenClaim := { program := "ytdhglmoanpkeoaa", sum := "61a01aeef9ca553ca73cb19239af208fa26cb1d642f2ed2d45af0c728a0bd685", func := "loop.example/g01986/laws.FnExactNewEngine", spec := "fnExactNewEngine", unfollowed := true, recurses := true, apart := false }
def FnExactNewEngineSaid : Prop := fnExactNewEngineRow.holds Try.pinned (OpenSpec.ofChange fnExactNewEngineSpec)

/-- ITS FALSE NEIGHBOUR: 'it returns false'. Refute it at one input. -/
def fnExactNewEngineWrong : ChangeSpec := { name := "fnExactNewEngine", fn := fun _ => fun
  | [d] => { results := [.lit (.bool false)], args := [d] }
  | _ => none }
def FnExactNewEngineWrongFalsely : Prop := fnExactNewEngineRow.holds Try.pinned (OpenSpec.ofChange fnExactNewEngineWrong)

/-- 'laws.FnExactFindActive': WHATEVER THE INPUT: true; the input reads as it did. -/
def fnExactFindActiveSpec : ChangeSpec := { name := "fnExactFindActive", fn := fun _ => fun
  | [d1, d2] => { results := [.lit (.bool true)], args := [d1, d2] }
  | _ => none }
def fnExactFindActiveRow : OpenClaim := { program := "ytdhglmoanpkeoaa", sum := "61a01aeef9ca553ca73cb19239af208fa26cb1d642f2ed2d45af0c728a0bd685", func := "loop.example/g01986/laws.FnExactFindActive", spec := "fnExactFindActive", unfollowed := true, recurses := true, apart := false }
def FnExactFindActiveSaid : Prop := fnExactFindActiveRow.holds Try.pinned (OpenSpec.ofChange fnExactFindActiveSpec)

/-- ITS FALSE NEIGHBOUR: 'it returns false'. Refute it at one input. -/
def fnExactFindActiveWrong : ChangeSpec := { name := "fnExactFindActive", fn := fun _ => fun
  | [d1, d2] => { results := [.lit (.bool false)], args := [d1, d2] }
  | _ => none }
def FnExactFindActiveWrongFalsely : Prop := fnExactFindActiveRow.holds Try.pinned (OpenSpec.ofChange fnExactFindActiveWrong)

/-- 'laws.FnExactEqualEngines': WHATEVER THE INPUT: true; the input reads as it did. -/
def fnExactEqualEnginesSpec : ChangeSpec := { name := "fnExactEqualEngines", fn := fun _ => fun
  | [d1, d2] => { results := [.lit (.bool true)], args := [d1, d2] }
  | _ => none }
def fnExactEqualEnginesRow : OpenClaim := { program := "ytdhglmoanpkeoaa", sum := "61a01aeef9ca553ca73cb19239af208fa26cb1d642f2ed2d45af0c728a0bd685", func := "loop.example/g01986/laws.FnExactEqualEngines", spec := "fnExactEqualEngines", unfollowed := true, recurses := true, apart := false }
def FnExactEqualEnginesSaid : Prop := fnExactEqualEnginesRow.holds Try.pinned (OpenSpec.ofChange fnExactEqualEnginesSpec)

/-- ITS FALSE NEIGHBOUR: 'it returns false'. Refute it at one input. -/
def fnExactEqualEnginesWrong : ChangeSpec := { name := "fnExactEqualEngines", fn := fun _ => fun
  | [d1, d2] => { results := [.lit (.bool false)], args := [d1, d2] }
  | _ => none }
def FnExactEqualEnginesWrongFalsely : Prop := fnExactEqualEnginesRow.holds Try.pinned (OpenSpec.ofChange fnExactEqualEnginesWrong)

/- THE SECOND FORM. 'bulk': how many values and letters a reading holds, each counted each time it is reached (what is shared counts as often as it is met; a slice's spare places count too). A statement '..UptoSaid' is the law's where the arguments, and the package variables that the reading takes, are together of bulk at most 1048576: NARROWER than '..Said'. Prove '..Said' where nothing that the law and all that it calls make is longer than what came in: it says more and counts as full. Else prove '..UptoSaid'. A law counts once. -/
mutual
def uptoBulk {H : Type} : DataW H → Nat
  | .lit (.string bytes) => bytes.length + 1
  | .lit _ => 1
  | .nil => 1
  | .ptr d => uptoBulk d + 1
  | .slice elems spare => uptoBulkAll elems + uptoBulkAll spare + 1
  | .agg parts => uptoBulkAll parts + 1
  | .iface _ d => uptoBulk d + 1
  | .map entries => uptoBulkEntries entries + 1
  | .held _ => 1
def uptoBulkAll {H : Type} : List (DataW H) → Nat
  | [] => 0
  | d :: r => uptoBulk d + uptoBulkAll r
def uptoBulkEntries {H : Type} : List (Lit × DataW H) → Nat
  | [] => 0
  | x :: r => uptoBulkEntry x + uptoBulkEntries r
def uptoBulkEntry {H : Type} : Lit × DataW H → Nat
  | (.string bytes, d) => bytes.length + uptoBulk d + 1
  | (_, d) => uptoBulk d + 1
 end
def uptoSmall : (H : Type) → List (DataW H) → Bool := fun _ ds => decide (uptoBulkAll ds ≤ 1048576)
def OpenSpec.upto (s : _root_.Go.ChangeSpec) : _root_.Go.OpenSpec := { _root_.Go.OpenSpec.ofChange s with cond := some uptoSmall }

/-- 'laws.FnExactSegmentRows', WHERE WHAT IT READS IS OF BULK AT MOST 1048576: true; the input reads as it did. -/
def fnExactSegmentRowsUptoRow : OpenClaim := { program := "ytdhglmoanpkeoaa", sum := "61a01aeef9ca553ca73cb19239af208fa26cb1d642f2ed2d45af0c728a0bd685", func := "loop.example/g01986/laws.FnExactSegmentRows", spec := "fnExactSegmentRows", unfollowed := true, recurses := true, apart := false, narrowed := true }
def FnExactSegmentRowsUptoSaid : Prop := fnExactSegmentRowsUptoRow.holds Try.pinned (OpenSpec.upto fnExactSegmentRowsSpec)

/-- 'laws.FnExactNewEngine', WHERE WHAT IT READS IS OF BULK AT MOST 1048576: true; the input reads as it did. -/
def fnExactNewEngineUptoRow : OpenClaim := { program := "ytdhglmoanpkeoaa", sum := "61a01aeef9ca553ca73cb19239af208fa26cb1d642f2ed2d45af0c728a0bd685", func := "loop.example/g01986/laws.FnExactNewEngine", spec := "fnExactNewEngine", unfollowed := true, recurses := true, apart := false, narrowed := true }
def FnExactNewEngineUptoSaid : Prop := fnExactNewEngineUptoRow.holds Try.pinned (OpenSpec.upto fnExactNewEngineSpec)

/-- 'laws.FnExactFindActive', WHERE WHAT IT READS IS OF BULK AT MOST 1048576: true; the input reads as it did. -/
def fnExactFindActiveUptoRow : OpenClaim := { program := "ytdhglmoanpkeoaa", sum := "61a01aeef9ca553ca73cb19239af208fa26cb1d642f2ed2d45af0c728a0bd685", func := "loop.example/g01986/laws.FnExactFindActive", spec := "fnExactFindActive", unfollowed := true, recurses := true, apart := false, narrowed := true }
def FnExactFindActiveUptoSaid : Prop := fnExactFindActiveUptoRow.holds Try.pinned (OpenSpec.upto fnExactFindActiveSpec)

/-- 'laws.FnExactEqualEngines', WHERE WHAT IT READS IS OF BULK AT MOST 1048576: true; the input reads as it did. -/
def fnExactEqualEnginesUptoRow : OpenClaim := { program := "ytdhglmoanpkeoaa", sum := "61a01aeef9ca553ca73cb19239af208fa26cb1d642f2ed2d45af0c728a0bd685", func := "loop.example/g01986/laws.FnExactEqualEngines", spec := "fnExactEqualEngines", unfollowed := true, recurses := true, apart := false, narrowed := true }
def FnExactEqualEnginesUptoSaid : Prop := fnExactEqualEnginesUptoRow.holds Try.pinned (OpenSpec.upto fnExactEqualEnginesSpec)

end Rows
end Go.Proofs.Ytdhglmoanpkeoaa
