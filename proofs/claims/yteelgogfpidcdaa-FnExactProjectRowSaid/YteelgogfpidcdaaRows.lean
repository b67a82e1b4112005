/-
  No cell of these rows narrows 'for every input' (looked for: loops, veiled, ifaces, maps, wideKeys, modest, calm, conditions, laid).
  DERIVED. THE GIVEN ROWS OF THIS SEAT. 8 by the template 'for every input the law returns true; each argument reads behind the call as it read before'; 0 by the template 'total and deterministic' (their statements: YteelgogfpidcdaaTotals.lean).
  GIVEN WITH THE SEED: the statements are not yours to turn. If you find one false, say at which input.
  Laid BY PROGRAM, IN A SANDBOX (cutbox-rows.mjs): the forced cells as the released guide's own fill.sh prints them over the translation 2f9dad92f3c4bf7c… (all of the seat's roots in one cut). By AI agents, Wed Nov 11 2026. No macro, syntax, notation, axiom, sorry.
-/
import Derived.Test.YteelgogfpidcdaaChecked
import GoSem.Claim
import GoSem.ClaimJoined
import GoSem.ClaimMapViews
import Derived.JoinedTies
import Derived.KernelRfl
namespace Go.Proofs.Yteelgogfpidcdaa
/- THE CELL 'sum', in the pinned program and in every row, IS THE sha256 OF THE DUMP (.gsa) THAT YteelgogfpidcdaaProg.lean LOADS. Nothing in Lean hashes anything: it is a label: what it is worth is what the hold of that sum in a sandbox is worth. -/
noncomputable def Try.pinned : Pinned := { name := "yteelgogfpidcdaa", sum := "2f9dad92f3c4bf7c443bfd649b5fe6e6121f32f8f2f41df6c364006469be2e9f", checked := Try.checked }
namespace Rows
def none {H : Type} : Left H := { results := [], args := [] }

/-- 'laws.FnExactIsCond': WHATEVER THE INPUT: true; the input reads as it did. -/
def fnExactIsCondSpec : ChangeSpec := { name := "fnExactIsCond", fn := fun _ => fun
  | [d] => { results := [.lit (.bool true)], args := [d] }
  | _ => none }
def fnExactIsCondRow : OpenClaim := { program := "yteelgogfpidcdaa", sum := "2f9dad92f3c4bf7c443bfd649b5fe6e6121f32f8f2f41df6c364006469be2e9f", func := "loop.example/g01986/laws.FnExactIsCond", spec := "fnExactIsCond", apart := false }
def FnExactIsCondSaid : Prop := fnExactIsCondRow.holds Try.pinned (OpenSpec.ofChange fnExactIsCondSpec)

/-- ITS FALSE NEIGHBOUR: 'it returns false'. Refute it at one input. -/
def fnExactIsCondWrong : ChangeSpec := { name := "fnExactIsCond", fn := fun _ => fun
  | [d] => { results := [.lit (.bool false)], args := [d] }
  | _ => none }
def FnExactIsCondWrongFalsely : Prop := fnExactIsCondRow.holds Try.pinned (OpenSpec.ofChange fnExactIsCondWrong)

/-- 'laws.FnExactIsQuery': WHATEVER THE INPUT: true; the input reads as it did. -/
def fnExactIsQuerySpec : ChangeSpec := { name := "fnExactIsQuery", fn := fun _ => fun
  | [d] => { results := [.lit (.bool true)], args := [d] }
  | _ => none }
def fnExactIsQueryRow : OpenClaim := { program := "yteelgogfpidcdaa", sum := "2f9dad92f3c4bf7c443bfd649b5fe6e6121f32f8f2f41df6c364006469be2e9f", func := "loop.example/g01986/laws.FnExactIsQuery", spec := "fnExactIsQuery", apart := false }
def FnExactIsQuerySaid : Prop := fnExactIsQueryRow.holds Try.pinned (OpenSpec.ofChange fnExactIsQuerySpec)

/-- ITS FALSE NEIGHBOUR: 'it returns false'. Refute it at one input. -/
def fnExactIsQueryWrong : ChangeSpec := { name := "fnExactIsQuery", fn := fun _ => fun
  | [d] => { results := [.lit (.bool false)], args := [d] }
  | _ => none }
def FnExactIsQueryWrongFalsely : Prop := fnExactIsQueryRow.holds Try.pinned (OpenSpec.ofChange fnExactIsQueryWrong)

/-- 'laws.FnExactAreQueries': WHATEVER THE INPUT: true; the input reads as it did. -/
def fnExactAreQueriesSpec : ChangeSpec := { name := "fnExactAreQueries", fn := fun _ => fun
  | [d] => { results := [.lit (.bool true)], args := [d] }
  | _ => none }
def fnExactAreQueriesRow : OpenClaim := { program := "yteelgogfpidcdaa", sum := "2f9dad92f3c4bf7c443bfd649b5fe6e6121f32f8f2f41df6c364006469be2e9f", func := "loop.example/g01986/laws.FnExactAreQueries", spec := "fnExactAreQueries", apart := false }
def FnExactAreQueriesSaid : Prop := fnExactAreQueriesRow.holds Try.pinned (OpenSpec.ofChange fnExactAreQueriesSpec)

/-- ITS FALSE NEIGHBOUR: 'it returns false'. Refute it at one input. -/
def fnExactAreQueriesWrong : ChangeSpec := { name := "fnExactAreQueries", fn := fun _ => fun
  | [d] => { results := [.lit (.bool false)], args := [d] }
  | _ => none }
def FnExactAreQueriesWrongFalsely : Prop := fnExactAreQueriesRow.holds Try.pinned (OpenSpec.ofChange fnExactAreQueriesWrong)

/-- 'laws.FnExactMatchesRow': WHATEVER THE INPUT: true; the input reads as it did. -/
def fnExactMatchesRowSpec : ChangeSpec := { name := "fnExactMatchesRow", fn := fun _ => fun
  | [d1, d2] => { results := [.lit (.bool true)], args := [d1, d2] }
  | _ => none }
def fnExactMatchesRowRow : OpenClaim := { program := "yteelgogfpidcdaa", sum := "2f9dad92f3c4bf7c443bfd649b5fe6e6121f32f8f2f41df6c364006469be2e9f", func := "loop.example/g01986/laws.FnExactMatchesRow", spec := "fnExactMatchesRow", apart := false }
def FnExactMatchesRowSaid : Prop := fnExactMatchesRowRow.holds Try.pinned (OpenSpec.ofChange fnExactMatchesRowSpec)

/-- ITS FALSE NEIGHBOUR: 'it returns false'. Refute it at one input. -/
def fnExactMatchesRowWrong : ChangeSpec := { name := "fnExactMatchesRow", fn := fun _ => fun
  | [d1, d2] => { results := [.lit (.bool false)], args := [d1, d2] }
  | _ => none }
def FnExactMatchesRowWrongFalsely : Prop := fnExactMatchesRowRow.holds Try.pinned (OpenSpec.ofChange fnExactMatchesRowWrong)

/-- 'laws.FnExactProjectRow': WHATEVER THE INPUT: true; the input reads as it did. -/
def fnExactProjectRowSpec : ChangeSpec := { name := "fnExactProjectRow", fn := fun _ => fun
  | [d1, d2] => { results := [.lit (.bool true)], args := [d1, d2] }
  | _ => none }
def fnExactProjectRowRow : OpenClaim := { program := "yteelgogfpidcdaa", sum := "2f9dad92f3c4bf7c443bfd649b5fe6e6121f32f8f2f41df6c364006469be2e9f", func := "loop.example/g01986/laws.FnExactProjectRow", spec := "fnExactProjectRow", apart := false }
def FnExactProjectRowSaid : Prop := fnExactProjectRowRow.holds Try.pinned (OpenSpec.ofChange fnExactProjectRowSpec)

/-- ITS FALSE NEIGHBOUR: 'it returns false'. Refute it at one input. -/
def fnExactProjectRowWrong : ChangeSpec := { name := "fnExactProjectRow", fn := fun _ => fun
  | [d1, d2] => { results := [.lit (.bool false)], args := [d1, d2] }
  | _ => none }
def FnExactProjectRowWrongFalsely : Prop := fnExactProjectRowRow.holds Try.pinned (OpenSpec.ofChange fnExactProjectRowWrong)

/-- 'laws.FnExactAnswerAlone': WHATEVER THE INPUT: true; the input reads as it did. -/
def fnExactAnswerAloneSpec : ChangeSpec := { name := "fnExactAnswerAlone", fn := fun _ => fun
  | [d1, d2] => { results := [.lit (.bool true)], args := [d1, d2] }
  | _ => none }
def fnExactAnswerAloneRow : OpenClaim := { program := "yteelgogfpidcdaa", sum := "2f9dad92f3c4bf7c443bfd649b5fe6e6121f32f8f2f41df6c364006469be2e9f", func := "loop.example/g01986/laws.FnExactAnswerAlone", spec := "fnExactAnswerAlone", unfollowed := true, recurses := true, apart := false }
def FnExactAnswerAloneSaid : Prop := fnExactAnswerAloneRow.holds Try.pinned (OpenSpec.ofChange fnExactAnswerAloneSpec)

/-- ITS FALSE NEIGHBOUR: 'it returns false'. Refute it at one input. -/
def fnExactAnswerAloneWrong : ChangeSpec := { name := "fnExactAnswerAlone", fn := fun _ => fun
  | [d1, d2] => { results := [.lit (.bool false)], args := [d1, d2] }
  | _ => none }
def FnExactAnswerAloneWrongFalsely : Prop := fnExactAnswerAloneRow.holds Try.pinned (OpenSpec.ofChange fnExactAnswerAloneWrong)

/-- 'laws.FnExactStabSet': WHATEVER THE INPUT: true; the input reads as it did. -/
def fnExactStabSetSpec : ChangeSpec := { name := "fnExactStabSet", fn := fun _ => fun
  | [d1, d2, d3] => { results := [.lit (.bool true)], args := [d1, d2, d3] }
  | _ => none }
def fnExactStabSetRow : OpenClaim := { program := "yteelgogfpidcdaa", sum := "2f9dad92f3c4bf7c443bfd649b5fe6e6121f32f8f2f41df6c364006469be2e9f", func := "loop.example/g01986/laws.FnExactStabSet", spec := "fnExactStabSet", apart := false }
def FnExactStabSetSaid : Prop := fnExactStabSetRow.holds Try.pinned (OpenSpec.ofChange fnExactStabSetSpec)

/-- ITS FALSE NEIGHBOUR: 'it returns false'. Refute it at one input. -/
def fnExactStabSetWrong : ChangeSpec := { name := "fnExactStabSet", fn := fun _ => fun
  | [d1, d2, d3] => { results := [.lit (.bool false)], args := [d1, d2, d3] }
  | _ => none }
def FnExactStabSetWrongFalsely : Prop := fnExactStabSetRow.holds Try.pinned (OpenSpec.ofChange fnExactStabSetWrong)

/-- 'laws.FnExactStabIndex': WHATEVER THE INPUT: true; the input reads as it did. -/
def fnExactStabIndexSpec : ChangeSpec := { name := "fnExactStabIndex", fn := fun _ => fun
  | [d1, d2] => { results := [.lit (.bool true)], args := [d1, d2] }
  | _ => none }
def fnExactStabIndexRow : OpenClaim := { program := "yteelgogfpidcdaa", sum := "2f9dad92f3c4bf7c443bfd649b5fe6e6121f32f8f2f41df6c364006469be2e9f", func := "loop.example/g01986/laws.FnExactStabIndex", spec := "fnExactStabIndex", apart := false }
def FnExactStabIndexSaid : Prop := fnExactStabIndexRow.holds Try.pinned (OpenSpec.ofChange fnExactStabIndexSpec)

/-- ITS FALSE NEIGHBOUR: 'it returns false'. Refute it at one input. -/
def fnExactStabIndexWrong : ChangeSpec := { name := "fnExactStabIndex", fn := fun _ => fun
  | [d1, d2] => { results := [.lit (.bool false)], args := [d1, d2] }
  | _ => none }
def FnExactStabIndexWrongFalsely : Prop := fnExactStabIndexRow.holds Try.pinned (OpenSpec.ofChange fnExactStabIndexWrong)

/- THE SECOND FORM. 'bulk': how many values and letters a reading holds, each counted each time it is reached (what is shared counts as often as it is met; a slice's spare places count too). A statement '..UptoSaid' is the law's where the arguments, and the package variables that the reading takes, are together of bulk at most 1048576: NARROWER than '..Said'. Prove '..Said' where nothing that the law and all that it calls make is longer than what came in: it says more and counts as full. Else prove '..UptoSaid'. A law counts once. -/
mutual
def uptoBulk {H : Type} : DataW H → Nat
  | .lit (.string bytes) => bytes.length + 1
  | .lit _ => 1
  | .nil => 1
  | .ptr d => uptoBulk d + 1
  | .slice elems spare => uptoBulkAll elems + uptoBulkAll spare + 1
  | .agg parts => uptoBulkAll parts + 1
  | .iface _ d => uptoBulk d + 1
  | .map entries => uptoBulkEntries entries + 1
  | .held _ => 1
def uptoBulkAll {H : Type} : List (DataW H) → Nat
  | [] => 0
  | d :: r => uptoBulk d + uptoBulkAll r
def uptoBulkEntries {H : Type} : List (Lit × DataW H) → Nat
  | [] => 0
  | x :: r => uptoBulkEntry x + uptoBulkEntries r
def uptoBulkEntry {H : Type} : Lit × DataW H → Nat
  | (.string bytes, d) => bytes.length + uptoBulk d + 1
  | (_, d) => uptoBulk d + 1
 end
def uptoSmall : (H : Type) → List (DataW H) → Bool := fun _ ds => decide (uptoBulkAll ds ≤ 1048576)
def OpenSpec.upto (s : _root_.Go.ChangeSpec) : _root_.Go.OpenSpec := { _root_.Go.OpenSpec.ofChange s with cond := some uptoSmall }

/-- 'laws.FnExactIsCond', WHERE WHAT IT READS IS OF BULK AT MOST 1048576: true; the input reads as it did. -/
def fnExactIsCondUptoRow : OpenClaim := { program := "yteelgogfpidcdaa", sum := "2f9dad92f3c4bf7c443bfd649b5fe6e6121f32f8f2f41df6c364006469be2e9f", func := "loop.example/g01986/laws.FnExactIsCond", spec := "fnExactIsCond", apart := false, narrowed := true }
def FnExactIsCondUptoSaid : Prop := fnExactIsCondUptoRow.holds Try.pinned (OpenSpec.upto fnExactIsCondSpec)

/-- 'laws.FnExactIsQuery', WHERE WHAT IT READS IS OF BULK AT MOST 1048576: true; the input reads as it did. -/
def fnExactIsQueryUptoRow : OpenClaim := { program := "yteelgogfpidcdaa", sum := "2f9dad92f3c4bf7c443bfd649b5fe6e6121f32f8f2f41df6c364006469be2e9f", func := "loop.example/g01986/laws.FnExactIsQuery", spec := "fnExactIsQuery", apart := false, narrowed := true }
def FnExactIsQueryUptoSaid : Prop := fnExactIsQueryUptoRow.holds Try.pinned (OpenSpec.upto fnExactIsQuerySpec)

/-- 'laws.FnExactAreQueries', WHERE WHAT IT READS IS OF BULK AT MOST 1048576: true; the input reads as it did. -/
def fnExactAreQueriesUptoRow : OpenClaim := { program := "yteelgogfpidcdaa", sum := "2f9dad92f3c4bf7c443bfd649b5fe6e6121f32f8f2f41df6c364006469be2e9f", func := "loop.example/g01986/laws.FnExactAreQueries", spec := "fnExactAreQueries", apart := false, narrowed := true }
def FnExactAreQueriesUptoSaid : Prop := fnExactAreQueriesUptoRow.holds Try.pinned (OpenSpec.upto fnExactAreQueriesSpec)

/-- 'laws.FnExactMatchesRow', WHERE WHAT IT READS IS OF BULK AT MOST 1048576: true; the input reads as it did. -/
def fnExactMatchesRowUptoRow : OpenClaim := { program := "yteelgogfpidcdaa", sum := "2f9dad92f3c4bf7c443bfd649b5fe6e6121f32f8f2f41df6c364006469be2e9f", func := "loop.example/g01986/laws.FnExactMatchesRow", spec := "fnExactMatchesRow", apart := false, narrowed := true }
def FnExactMatchesRowUptoSaid : Prop := fnExactMatchesRowUptoRow.holds Try.pinned (OpenSpec.upto fnExactMatchesRowSpec)

/-- 'laws.FnExactProjectRow', WHERE WHAT IT READS IS OF BULK AT MOST 1048576: true; the input reads as it did. -/
def fnExactProjectRowUptoRow : OpenClaim := { program := "yteelgogfpidcdaa", sum := "2f9dad92f3c4bf7c443bfd649b5fe6e6121f32f8f2f41df6c364006469be2e9f", func := "loop.example/g01986/laws.FnExactProjectRow", spec := "fnExactProjectRow", apart := false, narrowed := true }
def FnExactProjectRowUptoSaid : Prop := fnExactProjectRowUptoRow.holds Try.pinned (OpenSpec.upto fnExactProjectRowSpec)

/-- 'laws.FnExactAnswerAlone', WHERE WHAT IT READS IS OF BULK AT MOST 1048576: true; the input reads as it did. -/
def fnExactAnswerAloneUptoRow : OpenClaim := { program := "yteelgogfpidcdaa", sum := "2f9dad92f3c4bf7c443bfd649b5fe6e6121f32f8f2f41df6c364006469be2e9f", func := "loop.example/g01986/laws.FnExactAnswerAlone", spec := "fnExactAnswerAlone", unfollowed := true, recurses := true, apart := false, narrowed := true }
def FnExactAnswerAloneUptoSaid : Prop := fnExactAnswerAloneUptoRow.holds Try.pinned (OpenSpec.upto fnExactAnswerAloneSpec)

/-- 'laws.FnExactStabSet', WHERE WHAT IT READS IS OF BULK AT MOST 1048576: true; the input reads as it did. -/
def fnExactStabSetUptoRow : OpenClaim := { program := "yteelgogfpidcdaa", sum := "2f9dad92f3c4bf7c443bfd649b5fe6e6121f32f8f2f41df6c364006469be2e9f", func := "loop.example/g01986/laws.FnExactStabSet", spec := "fnExactStabSet", apart := false, narrowed := true }
def FnExactStabSetUptoSaid : Prop := fnExactStabSetUptoRow.holds Try.pinned (OpenSpec.upto fnExactStabSetSpec)

/-- 'laws.FnExactStabIndex', WHERE WHAT IT READS IS OF BULK AT MOST 1048576: true; the input reads as it did. -/
def fnExactStabIndexUptoRow : OpenClaim := { program := "yteelgogfpidcdaa", sum := "2f9dad92f3c4bf7c443bfd649b5fe6e6121f32f8f2f41df6c364006469be2e9f", func := "loop.example/g01986/laws.FnExactStabIndex", spec := "fnExactStabIndex", apart := false, narrowed := true }
def FnExactStabIndexUptoSaid : Prop := fnExactStabIndexUptoRow.holds Try.pinned (OpenSpec.upto fnExactStabIndexSpec)

end Rows
end Go.Proofs.Yteelgogfpidcdaa
