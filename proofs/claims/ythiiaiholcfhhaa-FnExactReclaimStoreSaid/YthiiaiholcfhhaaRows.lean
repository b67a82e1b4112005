/-
  No cell of these rows narrows 'for every input' (looked for: loops, veiled, ifaces, maps, wideKeys, modest, calm, conditions, laid).
  DERIVED. THE GIVEN ROWS OF THIS SEAT. 6 by the template 'for every input the law returns true; each argument reads behind the call as it read before'; 0 by the template 'total and deterministic' (their statements: YthiiaiholcfhhaaTotals.lean).
  GIVEN WITH THE SEED: the statements are not yours to turn. If you find one false, say at which input.
  Laid BY PROGRAM, IN A SANDBOX (cutbox-rows.mjs): the forced cells as the released guide's own fill.sh prints them over the translation a47e4652c7d9ed03… (all of the seat's roots in one cut). By AI agents, Wed Nov 11 2026. No macro, syntax, notation, axiom, sorry.
-/
import Derived.Test.YthiiaiholcfhhaaChecked
import GoSem.Claim
import GoSem.ClaimJoined
import GoSem.ClaimMapViews
import Derived.JoinedTies
import Derived.KernelRfl
namespace Go.Proofs.Ythiiaiholcfhhaa
/- THE CELL 'sum', in the pinned program and in every row, IS THE sha256 OF THE DUMP (.gsa) THAT YthiiaiholcfhhaaProg.lean LOADS. Nothing in Lean hashes anything: it is a label: what it is worth is what the hold of that sum in a sandbox is worth. -/
noncomputable def Try.pinned : Pinned := { name := "ythiiaiholcfhhaa", sum := "a47e4652c7d9ed03bea41eb3fc26e29a722ca14e195b1ebe8e3f9d2cf55539ac", checked := Try.checked }
namespace Rows
def none {H : Type} : Left H := { results := [], args := [] }

/-- 'laws.FnExactIsUpdate': WHATEVER THE INPUT: true; the input reads as it did. -/
def fnExactIsUpdateSpec : ChangeSpec := { name := "fnExactIsUpdate", fn := fun _ => fun
  | [d] => { results := [.lit (.bool true)], args := [d] }
  | _ => none }
def fnExactIsUpdateRow : OpenClaim := { program := "ythiiaiholcfhhaa", sum := "a47e4652c7d9ed03bea41eb3fc26e29a722ca14e195b1ebe8e3f9d2cf55539ac", func := "loop.example/g01986/laws.FnExactIsUpdate", spec := "fnExactIsUpdate", unfollowed := true, recurses := true, apart := false }
def FnExactIsUpdateSaid : Prop := fnExactIsUpdateRow.holds Try.pinned (OpenSpec.ofChange fnExactIsUpdateSpec)

/-- ITS FALSE NEIGHBOUR: 'it returns false'. Refute it at one input. -/
def fnExactIsUpdateWrong : ChangeSpec := { name := "fnExactIsUpdate", fn := fun _ => fun
  | [d] => { results := [.lit (.bool false)], args := [d] }
  | _ => none }
def FnExactIsUpdateWrongFalsely : Prop := fnExactIsUpdateRow.holds Try.pinned (OpenSpec.ofChange fnExactIsUpdateWrong)

/-- 'laws.FnExactApplyUpdate': WHATEVER THE INPUT: true; the input reads as it did. -/
def fnExactApplyUpdateSpec : ChangeSpec := { name := "fnExactApplyUpdate", fn := fun _ => fun
  | [d1, d2] => { results := [.lit (.bool true)], args := [d1, d2] }
  | _ => none }
def fnExactApplyUpdateRow : OpenClaim := { program := "ythiiaiholcfhhaa", sum := "a47e4652c7d9ed03bea41eb3fc26e29a722ca14e195b1ebe8e3f9d2cf55539ac", func := "loop.example/g01986/laws.FnExactApplyUpdate", spec := "fnExactApplyUpdate", unfollowed := true, recurses := true, apart := false }
def FnExactApplyUpdateSaid : Prop := fnExactApplyUpdateRow.holds Try.pinned (OpenSpec.ofChange fnExactApplyUpdateSpec)

/-- ITS FALSE NEIGHBOUR: 'it returns false'. Refute it at one input. -/
def fnExactApplyUpdateWrong : ChangeSpec := { name := "fnExactApplyUpdate", fn := fun _ => fun
  | [d1, d2] => { results := [.lit (.bool false)], args := [d1, d2] }
  | _ => none }
def FnExactApplyUpdateWrongFalsely : Prop := fnExactApplyUpdateRow.holds Try.pinned (OpenSpec.ofChange fnExactApplyUpdateWrong)

/-- 'laws.FnExactApplyUpdates': WHATEVER THE INPUT: true; the input reads as it did. -/
def fnExactApplyUpdatesSpec : ChangeSpec := { name := "fnExactApplyUpdates", fn := fun _ => fun
  | [d1, d2] => { results := [.lit (.bool true)], args := [d1, d2] }
  | _ => none }
def fnExactApplyUpdatesRow : OpenClaim := { program := "ythiiaiholcfhhaa", sum := "a47e4652c7d9ed03bea41eb3fc26e29a722ca14e195b1ebe8e3f9d2cf55539ac", func := "loop.example/g01986/laws.FnExactApplyUpdates", spec := "fnExactApplyUpdates", unfollowed := true, recurses := true, apart := false }
def FnExactApplyUpdatesSaid : Prop := fnExactApplyUpdatesRow.holds Try.pinned (OpenSpec.ofChange fnExactApplyUpdatesSpec)

/-- ITS FALSE NEIGHBOUR: 'it returns false'. Refute it at one input. -/
def fnExactApplyUpdatesWrong : ChangeSpec := { name := "fnExactApplyUpdates", fn := fun _ => fun
  | [d1, d2] => { results := [.lit (.bool false)], args := [d1, d2] }
  | _ => none }
def FnExactApplyUpdatesWrongFalsely : Prop := fnExactApplyUpdatesRow.holds Try.pinned (OpenSpec.ofChange fnExactApplyUpdatesWrong)

/-- 'laws.FnExactReclaimStore': WHATEVER THE INPUT: true; the input reads as it did. -/
def fnExactReclaimStoreSpec : ChangeSpec := { name := "fnExactReclaimStore", fn := fun _ => fun
  | [d1, d2] => { results := [.lit (.bool true)], args := [d1, d2] }
  | _ => none }
def fnExactReclaimStoreRow : OpenClaim := { program := "ythiiaiholcfhhaa", sum := "a47e4652c7d9ed03bea41eb3fc26e29a722ca14e195b1ebe8e3f9d2cf55539ac", func := "loop.example/g01986/laws.FnExactReclaimStore", spec := "fnExactReclaimStore", unfollowed := true, recurses := true, apart := false }
def FnExactReclaimStoreSaid : Prop := fnExactReclaimStoreRow.holds Try.pinned (OpenSpec.ofChange fnExactReclaimStoreSpec)

/-- ITS FALSE NEIGHBOUR: 'it returns false'. Refute it at one input. -/
def fnExactReclaimStoreWrong : ChangeSpec := { name := "fnExactReclaimStore", fn := fun _ => fun
  | [d1, d2] => { results := [.lit (.bool false)], args := [d1, d2] }
  | _ => none }
def FnExactReclaimStoreWrongFalsely : Prop := fnExactReclaimStoreRow.holds Try.pinned (OpenSpec.ofChange fnExactReclaimStoreWrong)

/-- 'laws.FnExactNewStore': WHATEVER THE INPUT: true; the input reads as it did. -/
def fnExactNewStoreSpec : ChangeSpec := { name := "fnExactNewStore", fn := fun _ => fun
  | [d1, d2] => { results := [.lit (.bool true)], args := [d1, d2] }
  | _ => none }
def fnExactNewStoreRow : OpenClaim := { program := "ythiiaiholcfhhaa", sum := "a47e4652c7d9ed03bea41eb3fc26e29a722ca14e195b1ebe8e3f9d2cf55539ac", func := "loop.example/g01986/laws.FnExactNewStore", spec := "fnExactNewStore", apart := false }
def FnExactNewStoreSaid : Prop := fnExactNewStoreRow.holds Try.pinned (OpenSpec.ofChange fnExactNewStoreSpec)

/-- ITS FALSE NEIGHBOUR: 'it returns false'. Refute it at one input. -/
def fnExactNewStoreWrong : ChangeSpec := { name := "fnExactNewStore", fn := fun _ => fun
  | [d1, d2] => { results := [.lit (.bool false)], args := [d1, d2] }
  | _ => none }
def FnExactNewStoreWrongFalsely : Prop := fnExactNewStoreRow.holds Try.pinned (OpenSpec.ofChange fnExactNewStoreWrong)

/-- 'laws.FnExactFormatUpdate': WHATEVER THE INPUT: true; the input reads as it did. -/
def fnExactFormatUpdateSpec : ChangeSpec := { name := "fnExactFormatUpdate", fn := fun _ => fun
  | [d] => { results := [.lit (.bool true)], args := [d] }
  | _ => none }
def fnExactFormatUpdateRow : OpenClaim := { program := "ythiiaiholcfhhaa", sum := "a47e4652c7d9ed03bea41eb3fc26e29a722ca14e195b1ebe8e3f9d2cf55539ac", func := "loop.example/g01986/laws.FnExactFormatUpdate", spec := "fnExactFormatUpdate", inPlace := ["internal/abi.NoEscape", "internal/bytealg.MakeNoZero"], unfollowed := true, recurses := true, apart := false }
def FnExactFormatUpdateSaid : Prop := fnExactFormatUpdateRow.holds Try.pinned (OpenSpec.ofChange fnExactFormatUpdateSpec)

/-- ITS FALSE NEIGHBOUR: 'it returns false'. Refute it at one input. -/
def fnExactFormatUpdateWrong : ChangeSpec := { name := "fnExactFormatUpdate", fn := fun _ => fun
  | [d] => { results := [.lit (.bool false)], args := [d] }
  | _ => none }
def FnExactFormatUpdateWrongFalsely : Prop := fnExactFormatUpdateRow.holds Try.pinned (OpenSpec.ofChange fnExactFormatUpdateWrong)

/- THE SECOND FORM. 'bulk': how many values and letters a reading holds, each counted each time it is reached (what is shared counts as often as it is met; a slice's spare places count too). A statement '..UptoSaid' is the law's where the arguments, and the package variables that the reading takes, are together of bulk at most 1048576: NARROWER than '..Said'. Prove '..Said' where nothing that the law and all that it calls make is longer than what came in: it says more and counts as full. Else prove '..UptoSaid'. A law counts once. -/
mutual
def uptoBulk {H : Type} : DataW H → Nat
  | .lit (.string bytes) => bytes.length + 1
  | .lit _ => 1
  | .nil => 1
  | .ptr d => uptoBulk d + 1
  | .slice elems spare => uptoBulkAll elems + uptoBulkAll spare + 1
  | .agg parts => uptoBulkAll parts + 1
  | .iface _ d => uptoBulk d + 1
  | .map entries => uptoBulkEntries entries + 1
  | .held _ => 1
def uptoBulkAll {H : Type} : List (DataW H) → Nat
  | [] => 0
  | d :: r => uptoBulk d + uptoBulkAll r
def uptoBulkEntries {H : Type} : List (Lit × DataW H) → Nat
  | [] => 0
  | x :: r => uptoBulkEntry x + uptoBulkEntries r
def uptoBulkEntry {H : Type} : Lit × DataW H → Nat
  | (.string bytes, d) => bytes.length + uptoBulk d + 1
  | (_, d) => uptoBulk d + 1
 end
def uptoSmall : (H : Type) → List (DataW H) → Bool := fun _ ds => decide (uptoBulkAll ds ≤ 1048576)
def OpenSpec.upto (s : _root_.Go.ChangeSpec) : _root_.Go.OpenSpec := { _root_.Go.OpenSpec.ofChange s with cond := some uptoSmall }

/-- 'laws.FnExactIsUpdate', WHERE WHAT IT READS IS OF BULK AT MOST 1048576: true; the input reads as it did. -/
def fnExactIsUpdateUptoRow : OpenClaim := { program := "ythiiaiholcfhhaa", sum := "a47e4652c7d9ed03bea41eb3fc26e29a722ca14e195b1ebe8e3f9d2cf55539ac", func := "loop.example/g01986/laws.FnExactIsUpdate", spec := "fnExactIsUpdate", unfollowed := true, recurses := true, apart := false, narrowed := true }
def FnExactIsUpdateUptoSaid : Prop := fnExactIsUpdateUptoRow.holds Try.pinned (OpenSpec.upto fnExactIsUpdateSpec)

/-- 'laws.FnExactApplyUpdate', WHERE WHAT IT READS IS OF BULK AT MOST 1048576: true; the input reads as it did. -/
def fnExactApplyUpdateUptoRow : OpenClaim := { program := "ythiiaiholcfhhaa", sum := "a47e4652c7d9ed03bea41eb3fc26e29a722ca14e195b1ebe8e3f9d2cf55539ac", func := "loop.example/g01986/laws.FnExactApplyUpdate", spec := "fnExactApplyUpdate", unfollowed := true, recurses := true, apart := false, narrowed := true }
def FnExactApplyUpdateUptoSaid : Prop := fnExactApplyUpdateUptoRow.holds Try.pinned (OpenSpec.upto fnExactApplyUpdateSpec)

/-- 'laws.FnExactApplyUpdates', WHERE WHAT IT READS IS OF BULK AT MOST 1048576: true; the input reads as it did. -/
def fnExactApplyUpdatesUptoRow : OpenClaim := { program := "ythiiaiholcfhhaa", sum := "a47e4652c7d9ed03bea41eb3fc26e29a722ca14e195b1ebe8e3f9d2cf55539ac", func := "loop.example/g01986/laws.FnExactApplyUpdates", spec := "fnExactApplyUpdates", unfollowed := true, recurses := true, apart := false, narrowed := true }
def FnExactApplyUpdatesUptoSaid : Prop := fnExactApplyUpdatesUptoRow.holds Try.pinned (OpenSpec.upto fnExactApplyUpdatesSpec)

/-- 'laws.FnExactReclaimStore', WHERE WHAT IT READS IS OF BULK AT MOST 1048576: true; the input reads as it did. -/
def fnExactReclaimStoreUptoRow : OpenClaim := { program := "ythiiaiholcfhhaa", sum := "a47e4652c7d9ed03bea41eb3fc26e29a722ca14e195b1ebe8e3f9d2cf55539ac", func := "loop.example/g01986/laws.FnExactReclaimStore", spec := "fnExactReclaimStore", unfollowed := true, recurses := true, apart := false, narrowed := true }
def FnExactReclaimStoreUptoSaid : Prop := fnExactReclaimStoreUptoRow.holds Try.pinned (OpenSpec.upto fnExactReclaimStoreSpec)

/-- 'laws.FnExactNewStore', WHERE WHAT IT READS IS OF BULK AT MOST 1048576: true; the input reads as it did. -/
def fnExactNewStoreUptoRow : OpenClaim := { program := "ythiiaiholcfhhaa", sum := "a47e4652c7d9ed03bea41eb3fc26e29a722ca14e195b1ebe8e3f9d2cf55539ac", func := "loop.example/g01986/laws.FnExactNewStore", spec := "fnExactNewStore", apart := false, narrowed := true }
def FnExactNewStoreUptoSaid : Prop := fnExactNewStoreUptoRow.holds Try.pinned (OpenSpec.upto fnExactNewStoreSpec)

/-- 'laws.FnExactFormatUpdate', WHERE WHAT IT READS IS OF BULK AT MOST 1048576: true; the input reads as it did. -/
def fnExactFormatUpdateUptoRow : OpenClaim := { program := "ythiiaiholcfhhaa", sum := "a47e4652c7d9ed03bea41eb3fc26e29a722ca14e195b1ebe8e3f9d2cf55539ac", func := "loop.example/g01986/laws.FnExactFormatUpdate", spec := "fnExactFormatUpdate", inPlace := ["internal/abi.NoEscape", "internal/bytealg.MakeNoZero"], unfollowed := true, recurses := true, apart := false, narrowed := true }
def FnExactFormatUpdateUptoSaid : Prop := fnExactFormatUpdateUptoRow.holds Try.pinned (OpenSpec.upto fnExactFormatUpdateSpec)

end Rows
end Go.Proofs.Ythiiaiholcfhhaa
