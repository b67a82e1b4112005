/-
  No cell of these rows narrows 'for every input' (looked for: loops, veiled, ifaces, maps, wideKeys, modest, calm, conditions, laid).
  DERIVED. THE GIVEN ROWS OF THIS SEAT. 9 by the template 'for every input the law returns true; each argument reads behind the call as it read before'; 0 by the template 'total and deterministic' (their statements: YtginjmnohnidiaaTotals.lean).
  GIVEN WITH THE SEED: the statements are not yours to turn. If you find one false, say at which input.
  Laid BY PROGRAM, IN A SANDBOX (cutbox-rows.mjs): the forced cells as the released guide's own fill.sh prints them over the translation e928b57e7ceab780… (all of the seat's roots in one cut). By AI agents, Wed Nov 11 2026. No macro, syntax, notation, axiom, sorry.
-/
import Derived.Test.YtginjmnohnidiaaChecked
import GoSem.Claim
import GoSem.ClaimJoined
import GoSem.ClaimMapViews
import Derived.JoinedTies
import Derived.KernelRfl
namespace Go.Proofs.Ytginjmnohnidiaa
/- THE CELL 'sum', in the pinned program and in every row, IS THE sha256 OF THE DUMP (.gsa) THAT YtginjmnohnidiaaProg.lean LOADS. Nothing in Lean hashes anything: it is a label: what it is worth is what the hold of that sum in a sandbox is worth. -/
noncomputable def Try.pinned : Pinned := { name := "ytginjmnohnidiaa", sum := "e928b57e7ceab780cfbddeb5c066a52384cba84b1b0d09e7b8bfe50a6346a3a6", checked := Try.checked }
namespace Rows
def none {H : Type} : Left H := { results := [], args := [] }

/-- 'laws.FnExactSortRows': WHATEVER THE INPUT: true; the input reads as it did. -/
def fnExactSortRowsSpec : ChangeSpec := { name := "fnExactSortRows", fn := fun _ => fun
  | [d] => { results := [.lit (.bool true)], args := [d] }
  | _ => none }
def fnExactSortRowsRow : OpenClaim := { program := "ytginjmnohnidiaa", sum := "e928b57e7ceab780cfbddeb5c066a52384cba84b1b0d09e7b8bfe50a6346a3a6", func := "loop.example/g01986/laws.FnExactSortRows", spec := "fnExactSortRows", unfollowed := true, recurses := true, apart := false }
def FnExactSortRowsSaid : Prop := fnExactSortRowsRow.holds Try.pinned (OpenSpec.ofChange fnExactSortRowsSpec)

/-- ITS FALSE NEIGHBOUR: 'it returns false'. Refute it at one input. -/
def fnExactSortRowsWrong : ChangeSpec := { name := "fnExactSortRows", fn := fun _ => fun
  | [d] => { results := [.lit (.bool false)], args := [d] }
  | _ => none }
def FnExactSortRowsWrongFalsely : Prop := fnExactSortRowsRow.holds Try.pinned (OpenSpec.ofChange fnExactSortRowsWrong)

/-- 'laws.FnExactAnswerAlone': WHATEVER THE INPUT: true; the input reads as it did. -/
def fnExactAnswerAloneSpec : ChangeSpec := { name := "fnExactAnswerAlone", fn := fun _ => fun
  | [d1, d2] => { results := [.lit (.bool true)], args := [d1, d2] }
  | _ => none }
def fnExactAnswerAloneRow : OpenClaim := { program := "ytginjmnohnidiaa", sum := "e928b57e7ceab780cfbddeb5c066a52384cba84b1b0d09e7b8bfe50a6346a3a6", func := "loop.example/g01986/laws.FnExactAnswerAlone", spec := "fnExactAnswerAlone", unfollowed := true, recurses := true, apart := false }
def FnExactAnswerAloneSaid : Prop := fnExactAnswerAloneRow.holds Try.pinned (OpenSpec.ofChange fnExactAnswerAloneSpec)

/-- ITS FALSE NEIGHBOUR: 'it returns false'. Refute it at one input. -/
def fnExactAnswerAloneWrong : ChangeSpec := { name := "fnExactAnswerAlone", fn := fun _ => fun
  | [d1, d2] => { results := [.lit (.bool false)], args := [d1, d2] }
  | _ => none }
def FnExactAnswerAloneWrongFalsely : Prop := fnExactAnswerAloneRow.holds Try.pinned (OpenSpec.ofChange fnExactAnswerAloneWrong)

/-- 'laws.FnExactNewStore': WHATEVER THE INPUT: true; the input reads as it did. -/
def fnExactNewStoreSpec : ChangeSpec := { name := "fnExactNewStore", fn := fun _ => fun
  | [d1, d2] => { results := [.lit (.bool true)], args := [d1, d2] }
  | _ => none }
def fnExactNewStoreRow : OpenClaim := { program := "ytginjmnohnidiaa", sum := "e928b57e7ceab780cfbddeb5c066a52384cba84b1b0d09e7b8bfe50a6346a3a6", func := "loop.example/g01986/laws.FnExactNewStore", spec := "fnExactNewStore", apart := false }
def FnExactNewStoreSaid : Prop := fnExactNewStoreRow.holds Try.pinned (OpenSpec.ofChange fnExactNewStoreSpec)

/-- ITS FALSE NEIGHBOUR: 'it returns false'. Refute it at one input. -/
def fnExactNewStoreWrong : ChangeSpec := { name := "fnExactNewStore", fn := fun _ => fun
  | [d1, d2] => { results := [.lit (.bool false)], args := [d1, d2] }
  | _ => none }
def FnExactNewStoreWrongFalsely : Prop := fnExactNewStoreRow.holds Try.pinned (OpenSpec.ofChange fnExactNewStoreWrong)

/-- 'laws.FnExactIsStore': WHATEVER THE INPUT: true; the input reads as it did. -/
def fnExactIsStoreSpec : ChangeSpec := { name := "fnExactIsStore", fn := fun _ => fun
  | [d] => { results := [.lit (.bool true)], args := [d] }
  | _ => none }
def fnExactIsStoreRow : OpenClaim := { program := "ytginjmnohnidiaa", sum := "e928b57e7ceab780cfbddeb5c066a52384cba84b1b0d09e7b8bfe50a6346a3a6", func := "loop.example/g01986/laws.FnExactIsStore", spec := "fnExactIsStore", unfollowed := true, recurses := true, apart := false }
def FnExactIsStoreSaid : Prop := fnExactIsStoreRow.holds Try.pinned (OpenSpec.ofChange fnExactIsStoreSpec)

/-- ITS FALSE NEIGHBOUR: 'it returns false'. Refute it at one input. -/
def fnExactIsStoreWrong : ChangeSpec := { name := "fnExactIsStore", fn := fun _ => fun
  | [d] => { results := [.lit (.bool false)], args := [d] }
  | _ => none }
def FnExactIsStoreWrongFalsely : Prop := fnExactIsStoreRow.holds Try.pinned (OpenSpec.ofChange fnExactIsStoreWrong)

/-- 'laws.FnExactIsVisible': WHATEVER THE INPUT: true; the input reads as it did. -/
def fnExactIsVisibleSpec : ChangeSpec := { name := "fnExactIsVisible", fn := fun _ => fun
  | [d1, d2] => { results := [.lit (.bool true)], args := [d1, d2] }
  | _ => none }
def fnExactIsVisibleRow : OpenClaim := { program := "ytginjmnohnidiaa", sum := "e928b57e7ceab780cfbddeb5c066a52384cba84b1b0d09e7b8bfe50a6346a3a6", func := "loop.example/g01986/laws.FnExactIsVisible", spec := "fnExactIsVisible", apart := false }
def FnExactIsVisibleSaid : Prop := fnExactIsVisibleRow.holds Try.pinned (OpenSpec.ofChange fnExactIsVisibleSpec)

/-- ITS FALSE NEIGHBOUR: 'it returns false'. Refute it at one input. -/
def fnExactIsVisibleWrong : ChangeSpec := { name := "fnExactIsVisible", fn := fun _ => fun
  | [d1, d2] => { results := [.lit (.bool false)], args := [d1, d2] }
  | _ => none }
def FnExactIsVisibleWrongFalsely : Prop := fnExactIsVisibleRow.holds Try.pinned (OpenSpec.ofChange fnExactIsVisibleWrong)

/-- 'laws.FnExactRowsAt': WHATEVER THE INPUT: true; the input reads as it did. -/
def fnExactRowsAtSpec : ChangeSpec := { name := "fnExactRowsAt", fn := fun _ => fun
  | [d1, d2] => { results := [.lit (.bool true)], args := [d1, d2] }
  | _ => none }
def fnExactRowsAtRow : OpenClaim := { program := "ytginjmnohnidiaa", sum := "e928b57e7ceab780cfbddeb5c066a52384cba84b1b0d09e7b8bfe50a6346a3a6", func := "loop.example/g01986/laws.FnExactRowsAt", spec := "fnExactRowsAt", unfollowed := true, recurses := true, apart := false }
def FnExactRowsAtSaid : Prop := fnExactRowsAtRow.holds Try.pinned (OpenSpec.ofChange fnExactRowsAtSpec)

/-- ITS FALSE NEIGHBOUR: 'it returns false'. Refute it at one input. -/
def fnExactRowsAtWrong : ChangeSpec := { name := "fnExactRowsAt", fn := fun _ => fun
  | [d1, d2] => { results := [.lit (.bool false)], args := [d1, d2] }
  | _ => none }
def FnExactRowsAtWrongFalsely : Prop := fnExactRowsAtRow.holds Try.pinned (OpenSpec.ofChange fnExactRowsAtWrong)

/-- 'laws.FnExactSegmentRows': WHATEVER THE INPUT: true; the input reads as it did. -/
def fnExactSegmentRowsSpec : ChangeSpec := { name := "fnExactSegmentRows", fn := fun _ => fun
  | [d1, d2, d3] => { results := [.lit (.bool true)], args := [d1, d2, d3] }
  | _ => none }
def fnExactSegmentRowsRow : OpenClaim := { program := "ytginjmnohnidiaa", sum := "e928b57e7ceab780cfbddeb5c066a52384cba84b1b0d09e7b8bfe50a6346a3a6", func := "loop.example/g01986/laws.FnExactSegmentRows", spec := "fnExactSegmentRows", unfollowed := true, recurses := true, apart := false }
def FnExactSegmentRowsSaid : Prop := fnExactSegmentRowsRow.holds Try.pinned (OpenSpec.ofChange fnExactSegmentRowsSpec)

/-- ITS FALSE NEIGHBOUR: 'it returns false'. Refute it at one input. -/
def fnExactSegmentRowsWrong : ChangeSpec := { name := "fnExactSegmentRows", fn := fun _ => fun
  | [d1, d2, d3] => { results := [.lit (.bool false)], args := [d1, d2, d3] }
  | _ => none }
def FnExactSegmentRowsWrongFalsely : Prop := fnExactSegmentRowsRow.holds Try.pinned (OpenSpec.ofChange fnExactSegmentRowsWrong)

/-- 'laws.FnExactCountVersions': WHATEVER THE INPUT: true; the input reads as it did. -/
def fnExactCountVersionsSpec : ChangeSpec := { name := "fnExactCountVersions", fn := fun _ => fun
  | [d] => { results := [.lit (.bool true)], args := [d] }
  | _ => none }
def fnExactCountVersionsRow : OpenClaim := { program := "ytginjmnohnidiaa", sum := "e928b57e7ceab780cfbddeb5c066a52384cba84b1b0d09e7b8bfe50a6346a3a6", func := "loop.example/g01986/laws.FnExactCountVersions", spec := "fnExactCountVersions", apart := false }
def FnExactCountVersionsSaid : Prop := fnExactCountVersionsRow.holds Try.pinned (OpenSpec.ofChange fnExactCountVersionsSpec)

/-- ITS FALSE NEIGHBOUR: 'it returns false'. Refute it at one input. -/
def fnExactCountVersionsWrong : ChangeSpec := { name := "fnExactCountVersions", fn := fun _ => fun
  | [d] => { results := [.lit (.bool false)], args := [d] }
  | _ => none }
def FnExactCountVersionsWrongFalsely : Prop := fnExactCountVersionsRow.holds Try.pinned (OpenSpec.ofChange fnExactCountVersionsWrong)

/-- 'laws.FnExactEqualStores': WHATEVER THE INPUT: true; the input reads as it did. -/
def fnExactEqualStoresSpec : ChangeSpec := { name := "fnExactEqualStores", fn := fun _ => fun
  | [d1, d2] => { results := [.lit (.bool true)], args := [d1, d2] }
  | _ => none }
def fnExactEqualStoresRow : OpenClaim := { program := "ytginjmnohnidiaa", sum := "e928b57e7ceab780cfbddeb5c066a52384cba84b1b0d09e7b8bfe50a6346a3a6", func := "loop.example/g01986/laws.FnExactEqualStores", spec := "fnExactEqualStores", unfollowed := true, recurses := true, apart := false }
def FnExactEqualStoresSaid : Prop := fnExactEqualStoresRow.holds Try.pinned (OpenSpec.ofChange fnExactEqualStoresSpec)

/-- ITS FALSE NEIGHBOUR: 'it returns false'. Refute it at one input. -/
def fnExactEqualStoresWrong : ChangeSpec := { name := "fnExactEqualStores", fn := fun _ => fun
  | [d1, d2] => { results := [.lit (.bool false)], args := [d1, d2] }
  | _ => none }
def FnExactEqualStoresWrongFalsely : Prop := fnExactEqualStoresRow.holds Try.pinned (OpenSpec.ofChange fnExactEqualStoresWrong)

/- THE SECOND FORM. 'bulk': how many values and letters a reading holds, each counted each time it is reached (what is shared counts as often as it is met; a slice's spare places count too). A statement '..UptoSaid' is the law's where the arguments, and the package variables that the reading takes, are together of bulk at most 1048576: NARROWER than '..Said'. Prove '..Said' where nothing that the law and all that it calls make is longer than what came in: it says more and counts as full. Else prove '..UptoSaid'. A law counts once. -/
mutual
def uptoBulk {H : Type} : DataW H → Nat
  | .lit (.string bytes) => bytes.length + 1
  | .lit _ => 1
  | .nil => 1
  | .ptr d => uptoBulk d + 1
  | .slice elems spare => uptoBulkAll elems + uptoBulkAll spare + 1
  | .agg parts => uptoBulkAll parts + 1
  | .iface _ d => uptoBulk d + 1
  | .map entries => uptoBulkEntries entries + 1
  | .held _ => 1
def uptoBulkAll {H : Type} : List (DataW H) → Nat
  | [] => 0
  | d :: r => uptoBulk d + uptoBulkAll r
def uptoBulkEntries {H : Type} : List (Lit × DataW H) → Nat
  | [] => 0
  | x :: r => uptoBulkEntry x + uptoBulkEntries r
def uptoBulkEntry {H : Type} : Lit × DataW H → Nat
  | (.string bytes, d) => bytes.length + uptoBulk d + 1
  | (_, d) => uptoBulk d + 1
 end
def uptoSmall : (H : Type) → List (DataW H) → Bool := fun _ ds => decide (uptoBulkAll ds ≤ 1048576)
def OpenSpec.upto (s : _root_.Go.ChangeSpec) : _root_.Go.OpenSpec := { _root_.Go.OpenSpec.ofChange s with cond := some uptoSmall }

/-- 'laws.FnExactSortRows', WHERE WHAT IT READS IS OF BULK AT MOST 1048576: true; the input reads as it did. -/
def fnExactSortRowsUptoRow : OpenClaim := { program := "ytginjmnohnidiaa", sum := "e928b57e7ceab780cfbddeb5c066a52384cba84b1b0d09e7b8bfe50a6346a3a6", func := "loop.example/g01986/laws.FnExactSortRows", spec := "fnExactSortRows", unfollowed := true, recurses := true, apart := false, narrowed := true }
def FnExactSortRowsUptoSaid : Prop := fnExactSortRowsUptoRow.holds Try.pinned (OpenSpec.upto fnExactSortRowsSpec)

/-- 'laws.FnExactAnswerAlone', WHERE WHAT IT READS IS OF BULK AT MOST 1048576: true; the input reads as it did. -/
def fnExactAnswerAloneUptoRow : OpenClaim := { program := "ytginjmnohnidiaa", sum := "e928b57e7ceab780cfbddeb5c066a52384cba84b1b0d09e7b8bfe50a6346a3a6", func := "loop.example/g01986/laws.FnExactAnswerAlone", spec := "fnExactAnswerAlone", unfollowed := true, recurses := true, apart := false, narrowed := true }
def FnExactAnswerAloneUptoSaid : Prop := fnExactAnswerAloneUptoRow.holds Try.pinned (OpenSpec.upto fnExactAnswerAloneSpec)

/-- 'laws.FnExactNewStore', WHERE WHAT IT READS IS OF BULK AT MOST 1048576: true; the input reads as it did. -/
def fnExactNewStoreUptoRow : OpenClaim := { program := "ytginjmnohnidiaa", sum := "e928b57e7ceab780cfbddeb5c066a52384cba84b1b0d09e7b8bfe50a6346a3a6", func := "loop.example/g01986/laws.FnExactNewStore", spec := "fnExactNewStore", apart := false, narrowed := true }
def FnExactNewStoreUptoSaid : Prop := fnExactNewStoreUptoRow.holds Try.pinned (OpenSpec.upto fnExactNewStoreSpec)

/-- 'laws.FnExactIsStore', WHERE WHAT IT READS IS OF BULK AT MOST 1048576: true; the input reads as it did. -/
def fnExactIsStoreUptoRow : OpenClaim := { program := "ytginjmnohnidiaa", sum := "e928b57e7ceab780cfbddeb5c066a52384cba84b1b0d09e7b8bfe50a6346a3a6", func := "loop.example/g01986/laws.FnExactIsStore", spec := "fnExactIsStore", unfollowed := true, recurses := true, apart := false, narrowed := true }
def FnExactIsStoreUptoSaid : Prop := fnExactIsStoreUptoRow.holds Try.pinned (OpenSpec.upto fnExactIsStoreSpec)

/-- 'laws.FnExactIsVisible', WHERE WHAT IT READS IS OF BULK AT MOST 1048576: true; the input reads as it did. -/
def fnExactIsVisibleUptoRow : OpenClaim := { program := "ytginjmnohnidiaa", sum := "e928b57e7ceab780cfbddeb5c066a52384cba84b1b0d09e7b8bfe50a6346a3a6", func := "loop.example/g01986/laws.FnExactIsVisible", spec := "fnExactIsVisible", apart := false, narrowed := true }
def FnExactIsVisibleUptoSaid : Prop := fnExactIsVisibleUptoRow.holds Try.pinned (OpenSpec.upto fnExactIsVisibleSpec)

/-- 'laws.FnExactRowsAt', WHERE WHAT IT READS IS OF BULK AT MOST 1048576: true; the input reads as it did. -/
def fnExactRowsAtUptoRow : OpenClaim := { program := "ytginjmnohnidiaa", sum := "e928b57e7ceab780cfbddeb5c066a52384cba84b1b0d09e7b8bfe50a6346a3a6", func := "loop.example/g01986/laws.FnExactRowsAt", spec := "fnExactRowsAt", unfollowed := true, recurses := true, apart := false, narrowed := true }
def FnExactRowsAtUptoSaid : Prop := fnExactRowsAtUptoRow.holds Try.pinned (OpenSpec.upto fnExactRowsAtSpec)

/-- 'laws.FnExactSegmentRows', WHERE WHAT IT READS IS OF BULK AT MOST 1048576: true; the input reads as it did. -/
def fnExactSegmentRowsUptoRow : OpenClaim := { program := "ytginjmnohnidiaa", sum := "e928b57e7ceab780cfbddeb5c066a52384cba84b1b0d09e7b8bfe50a6346a3a6", func := "loop.example/g01986/laws.FnExactSegmentRows", spec := "fnExactSegmentRows", unfollowed := true, recurses := true, apart := false, narrowed := true }
def FnExactSegmentRowsUptoSaid : Prop := fnExactSegmentRowsUptoRow.holds Try.pinned (OpenSpec.upto fnExactSegmentRowsSpec)

/-- 'laws.FnExactCountVersions', WHERE WHAT IT READS IS OF BULK AT MOST 1048576: true; the input reads as it did. -/
def fnExactCountVersionsUptoRow : OpenClaim := { program := "ytginjmnohnidiaa", sum := "e928b57e7ceab780cfbddeb5c066a52384cba84b1b0d09e7b8bfe50a6346a3a6", func := "loop.example/g01986/laws.FnExactCountVersions", spec := "fnExactCountVersions", apart := false, narrowed := true }
def FnExactCountVersionsUptoSaid : Prop := fnExactCountVersionsUptoRow.holds Try.pinned (OpenSpec.upto fnExactCountVersionsSpec)

/-- 'laws.FnExactEqualStores', WHERE WHAT IT READS IS OF BULK AT MOST 1048576: true; the input reads as it did. -/
def fnExactEqualStoresUptoRow : OpenClaim := { program := "ytginjmnohnidiaa", sum := "e928b57e7ceab780cfbddeb5c066a52384cba84b1b0d09e7b8bfe50a6346a3a6", func := "loop.example/g01986/laws.FnExactEqualStores", spec := "fnExactEqualStores", unfollowed := true, recurses := true, apart := false, narrowed := true }
def FnExactEqualStoresUptoSaid : Prop := fnExactEqualStoresUptoRow.holds Try.pinned (OpenSpec.upto fnExactEqualStoresSpec)

end Rows
end Go.Proofs.Ytginjmnohnidiaa
