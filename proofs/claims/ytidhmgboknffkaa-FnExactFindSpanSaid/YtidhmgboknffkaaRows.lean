/-
  No cell of these rows narrows 'for every input' (looked for: loops, veiled, ifaces, maps, wideKeys, modest, calm, conditions, laid).
  DERIVED. THE GIVEN ROWS OF THIS SEAT. 6 by the template 'for every input the law returns true; each argument reads behind the call as it read before'; 0 by the template 'total and deterministic' (their statements: YtidhmgboknffkaaTotals.lean).
  GIVEN WITH THE SEED: the statements are not yours to turn. If you find one false, say at which input.
  Laid BY PROGRAM, IN A SANDBOX (cutbox-rows.mjs): the forced cells as the released guide's own fill.sh prints them over the translation 7df789484465f980… (all of the seat's roots in one cut). By AI agents, Wed Nov 11 2026. No macro, syntax, notation, axiom, sorry.
-/
import Derived.Test.YtidhmgboknffkaaChecked
import GoSem.Claim
import GoSem.ClaimJoined
import GoSem.ClaimMapViews
import Derived.JoinedTies
import Derived.KernelRfl
namespace Go.Proofs.Ytidhmgboknffkaa
/- THE CELL 'sum', in the pinned program and in every row, IS THE sha256 OF THE DUMP (.gsa) THAT YtidhmgboknffkaaProg.lean LOADS. Nothing in Lean hashes anything: it is a label: what it is worth is what the hold of that sum in a sandbox is worth. -/
noncomputable def Try.pinned : Pinned := { name := "ytidhmgboknffkaa", sum := "7df789484465f9800a84f7cf541e8438a4ab4e08326068dba9c4dc6777fd85e7", checked := Try.checked }
namespace Rows
def none {H : Type} : Left H := { results := [], args := [] }

/-- 'laws.FnExactBuildIndex': WHATEVER THE INPUT: true; the input reads as it did. -/
def fnExactBuildIndexSpec : ChangeSpec := { name := "fnExactBuildIndex", fn := fun _ => fun
  | [d] => { results := [.lit (.bool true)], args := [d] }
  | _ => none }
def fnExactBuildIndexRow : OpenClaim := { program := "ytidhmgboknffkaa", sum := "7df789484465f9800a84f7cf541e8438a4ab4e08326068dba9c4dc6777fd85e7", func := "loop.example/g01986/laws.FnExactBuildIndex", spec := "fnExactBuildIndex", unfollowed := true, recurses := true, apart := false }
def FnExactBuildIndexSaid : Prop := fnExactBuildIndexRow.holds Try.pinned (OpenSpec.ofChange fnExactBuildIndexSpec)

/-- ITS FALSE NEIGHBOUR: 'it returns false'. Refute it at one input. -/
def fnExactBuildIndexWrong : ChangeSpec := { name := "fnExactBuildIndex", fn := fun _ => fun
  | [d] => { results := [.lit (.bool false)], args := [d] }
  | _ => none }
def FnExactBuildIndexWrongFalsely : Prop := fnExactBuildIndexRow.holds Try.pinned (OpenSpec.ofChange fnExactBuildIndexWrong)

/-- 'laws.FnExactIsIndex': WHATEVER THE INPUT: true; the input reads as it did. -/
def fnExactIsIndexSpec : ChangeSpec := { name := "fnExactIsIndex", fn := fun _ => fun
  | [d] => { results := [.lit (.bool true)], args := [d] }
  | _ => none }
def fnExactIsIndexRow : OpenClaim := { program := "ytidhmgboknffkaa", sum := "7df789484465f9800a84f7cf541e8438a4ab4e08326068dba9c4dc6777fd85e7", func := "loop.example/g01986/laws.FnExactIsIndex", spec := "fnExactIsIndex", unfollowed := true, recurses := true, apart := false }
def FnExactIsIndexSaid : Prop := fnExactIsIndexRow.holds Try.pinned (OpenSpec.ofChange fnExactIsIndexSpec)

/-- ITS FALSE NEIGHBOUR: 'it returns false'. Refute it at one input. -/
def fnExactIsIndexWrong : ChangeSpec := { name := "fnExactIsIndex", fn := fun _ => fun
  | [d] => { results := [.lit (.bool false)], args := [d] }
  | _ => none }
def FnExactIsIndexWrongFalsely : Prop := fnExactIsIndexRow.holds Try.pinned (OpenSpec.ofChange fnExactIsIndexWrong)

/-- 'laws.FnExactSortRows': WHATEVER THE INPUT: true; the input reads as it did. -/
def fnExactSortRowsSpec : ChangeSpec := { name := "fnExactSortRows", fn := fun _ => fun
  | [d] => { results := [.lit (.bool true)], args := [d] }
  | _ => none }
def fnExactSortRowsRow : OpenClaim := { program := "ytidhmgboknffkaa", sum := "7df789484465f9800a84f7cf541e8438a4ab4e08326068dba9c4dc6777fd85e7", func := "loop.example/g01986/laws.FnExactSortRows", spec := "fnExactSortRows", unfollowed := true, recurses := true, apart := false }
def FnExactSortRowsSaid : Prop := fnExactSortRowsRow.holds Try.pinned (OpenSpec.ofChange fnExactSortRowsSpec)

/-- ITS FALSE NEIGHBOUR: 'it returns false'. Refute it at one input. -/
def fnExactSortRowsWrong : ChangeSpec := { name := "fnExactSortRows", fn := fun _ => fun
  | [d] => { results := [.lit (.bool false)], args := [d] }
  | _ => none }
def FnExactSortRowsWrongFalsely : Prop := fnExactSortRowsRow.holds Try.pinned (OpenSpec.ofChange fnExactSortRowsWrong)

/-- 'laws.FnExactStabSet': WHATEVER THE INPUT: true; the input reads as it did. -/
def fnExactStabSetSpec : ChangeSpec := { name := "fnExactStabSet", fn := fun _ => fun
  | [d1, d2, d3] => { results := [.lit (.bool true)], args := [d1, d2, d3] }
  | _ => none }
def fnExactStabSetRow : OpenClaim := { program := "ytidhmgboknffkaa", sum := "7df789484465f9800a84f7cf541e8438a4ab4e08326068dba9c4dc6777fd85e7", func := "loop.example/g01986/laws.FnExactStabSet", spec := "fnExactStabSet", apart := false }
def FnExactStabSetSaid : Prop := fnExactStabSetRow.holds Try.pinned (OpenSpec.ofChange fnExactStabSetSpec)

/-- ITS FALSE NEIGHBOUR: 'it returns false'. Refute it at one input. -/
def fnExactStabSetWrong : ChangeSpec := { name := "fnExactStabSet", fn := fun _ => fun
  | [d1, d2, d3] => { results := [.lit (.bool false)], args := [d1, d2, d3] }
  | _ => none }
def FnExactStabSetWrongFalsely : Prop := fnExactStabSetRow.holds Try.pinned (OpenSpec.ofChange fnExactStabSetWrong)

/-- 'laws.FnExactStabIndex': WHATEVER THE INPUT: true; the input reads as it did. -/
def fnExactStabIndexSpec : ChangeSpec := { name := "fnExactStabIndex", fn := fun _ => fun
  | [d1, d2] => { results := [.lit (.bool true)], args := [d1, d2] }
  | _ => none }
def fnExactStabIndexRow : OpenClaim := { program := "ytidhmgboknffkaa", sum := "7df789484465f9800a84f7cf541e8438a4ab4e08326068dba9c4dc6777fd85e7", func := "loop.example/g01986/laws.FnExactStabIndex", spec := "fnExactStabIndex", apart := false }
def FnExactStabIndexSaid : Prop := fnExactStabIndexRow.holds Try.pinned (OpenSpec.ofChange fnExactStabIndexSpec)

/-- ITS FALSE NEIGHBOUR: 'it returns false'. Refute it at one input. -/
def fnExactStabIndexWrong : ChangeSpec := { name := "fnExactStabIndex", fn := fun _ => fun
  | [d1, d2] => { results := [.lit (.bool false)], args := [d1, d2] }
  | _ => none }
def FnExactStabIndexWrongFalsely : Prop := fnExactStabIndexRow.holds Try.pinned (OpenSpec.ofChange fnExactStabIndexWrong)

/-- 'laws.FnExactFindSpan': WHATEVER THE INPUT: true; the input reads as it did. -/
def fnExactFindSpanSpec : ChangeSpec := { name := "fnExactFindSpan", fn := fun _ => fun
  | [d1, d2] => { results := [.lit (.bool true)], args := [d1, d2] }
  | _ => none }
def fnExactFindSpanRow : OpenClaim := { program := "ytidhmgboknffkaa", sum := "7df789484465f9800a84f7cf541e8438a4ab4e08326068dba9c4dc6777fd85e7", func := "loop.example/g01986/laws.FnExactFindSpan", spec := "fnExactFindSpan", apart := false }
def FnExactFindSpanSaid : Prop := fnExactFindSpanRow.holds Try.pinned (OpenSpec.ofChange fnExactFindSpanSpec)

/-- ITS FALSE NEIGHBOUR: 'it returns false'. Refute it at one input. -/
def fnExactFindSpanWrong : ChangeSpec := { name := "fnExactFindSpan", fn := fun _ => fun
  | [d1, d2] => { results := [.lit (.bool false)], args := [d1, d2] }
  | _ => none }
def FnExactFindSpanWrongFalsely : Prop := fnExactFindSpanRow.holds Try.pinned (OpenSpec.ofChange fnExactFindSpanWrong)

/- THE SECOND FORM. 'bulk': how many values and letters a reading holds, each counted each time it is reached (what is shared counts as often as it is met; a slice's spare places count too). A statement '..UptoSaid' is the law's where the arguments, and the package variables that the reading takes, are together of bulk at most 1048576: NARROWER than '..Said'. Prove '..Said' where nothing that the law and all that it calls make is longer than what came in: it says more and counts as full. Else prove '..UptoSaid'. A law counts once. -/
mutual
def uptoBulk {H : Type} : DataW H → Nat
  | .lit (.string bytes) => bytes.length + 1
  | .lit _ => 1
  | .nil => 1
  | .ptr d => uptoBulk d + 1
  | .slice elems spare => uptoBulkAll elems + uptoBulkAll spare + 1
  | .agg parts => uptoBulkAll parts + 1
  | .iface _ d => uptoBulk d + 1
  | .map entries => uptoBulkEntries entries + 1
  | .held _ => 1
def uptoBulkAll {H : Type} : List (DataW H) → Nat
  | [] => 0
  | d :: r => uptoBulk d + uptoBulkAll r
def uptoBulkEntries {H : Type} : List (Lit × DataW H) → Nat
  | [] => 0
  | x :: r => uptoBulkEntry x + uptoBulkEntries r
def uptoBulkEntry {H : Type} : Lit × DataW H → Nat
  | (.string bytes, d) => bytes.length + uptoBulk d + 1
  | (_, d) => uptoBulk d + 1
 end
def uptoSmall : (H : Type) → List (DataW H) → Bool := fun _ ds => decide (uptoBulkAll ds ≤ 1048576)
def OpenSpec.upto (s : _root_.Go.ChangeSpec) : _root_.Go.OpenSpec := { _root_.Go.OpenSpec.ofChange s with cond := some uptoSmall }

/-- 'laws.FnExactBuildIndex', WHERE WHAT IT READS IS OF BULK AT MOST 1048576: true; the input reads as it did. -/
def fnExactBuildIndexUptoRow : OpenClaim := { program := "ytidhmgboknffkaa", sum := "7df789484465f9800a84f7cf541e8438a4ab4e08326068dba9c4dc6777fd85e7", func := "loop.example/g01986/laws.FnExactBuildIndex", spec := "fnExactBuildIndex", unfollowed := true, recurses := true, apart := false, narrowed := true }
def FnExactBuildIndexUptoSaid : Prop := fnExactBuildIndexUptoRow.holds Try.pinned (OpenSpec.upto fnExactBuildIndexSpec)

/-- 'laws.FnExactIsIndex', WHERE WHAT IT READS IS OF BULK AT MOST 1048576: true; the input reads as it did. -/
def fnExactIsIndexUptoRow : OpenClaim := { program := "ytidhmgboknffkaa", sum := "7df789484465f9800a84f7cf541e8438a4ab4e08326068dba9c4dc6777fd85e7", func := "loop.example/g01986/laws.FnExactIsIndex", spec := "fnExactIsIndex", unfollowed := true, recurses := true, apart := false, narrowed := true }
def FnExactIsIndexUptoSaid : Prop := fnExactIsIndexUptoRow.holds Try.pinned (OpenSpec.upto fnExactIsIndexSpec)

/-- 'laws.FnExactSortRows', WHERE WHAT IT READS IS OF BULK AT MOST 1048576: true; the input reads as it did. -/
def fnExactSortRowsUptoRow : OpenClaim := { program := "ytidhmgboknffkaa", sum := "7df789484465f9800a84f7cf541e8438a4ab4e08326068dba9c4dc6777fd85e7", func := "loop.example/g01986/laws.FnExactSortRows", spec := "fnExactSortRows", unfollowed := true, recurses := true, apart := false, narrowed := true }
def FnExactSortRowsUptoSaid : Prop := fnExactSortRowsUptoRow.holds Try.pinned (OpenSpec.upto fnExactSortRowsSpec)

/-- 'laws.FnExactStabSet', WHERE WHAT IT READS IS OF BULK AT MOST 1048576: true; the input reads as it did. -/
def fnExactStabSetUptoRow : OpenClaim := { program := "ytidhmgboknffkaa", sum := "7df789484465f9800a84f7cf541e8438a4ab4e08326068dba9c4dc6777fd85e7", func := "loop.example/g01986/laws.FnExactStabSet", spec := "fnExactStabSet", apart := false, narrowed := true }
def FnExactStabSetUptoSaid : Prop := fnExactStabSetUptoRow.holds Try.pinned (OpenSpec.upto fnExactStabSetSpec)

/-- 'laws.FnExactStabIndex', WHERE WHAT IT READS IS OF BULK AT MOST 1048576: true; the input reads as it did. -/
def fnExactStabIndexUptoRow : OpenClaim := { program := "ytidhmgboknffkaa", sum := "7df789484465f9800a84f7cf541e8438a4ab4e08326068dba9c4dc6777fd85e7", func := "loop.example/g01986/laws.FnExactStabIndex", spec := "fnExactStabIndex", apart := false, narrowed := true }
def FnExactStabIndexUptoSaid : Prop := fnExactStabIndexUptoRow.holds Try.pinned (OpenSpec.upto fnExactStabIndexSpec)

/-- 'laws.FnExactFindSpan', WHERE WHAT IT READS IS OF BULK AT MOST 1048576: true; the input reads as it did. -/
def fnExactFindSpanUptoRow : OpenClaim := { program := "ytidhmgboknffkaa", sum := "7df789484465f9800a84f7cf541e8438a4ab4e08326068dba9c4dc6777fd85e7", func := "loop.example/g01986/laws.FnExactFindSpan", spec := "fnExactFindSpan", apart := false, narrowed := true }
def FnExactFindSpanUptoSaid : Prop := fnExactFindSpanUptoRow.holds Try.pinned (OpenSpec.upto fnExactFindSpanSpec)

end Rows
end Go.Proofs.Ytidhmgboknffkaa
