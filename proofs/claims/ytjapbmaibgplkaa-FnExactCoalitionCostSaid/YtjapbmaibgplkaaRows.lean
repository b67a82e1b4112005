/-
  No cell of these rows narrows 'for every input' (looked for: loops, veiled, ifaces, maps, wideKeys, modest, calm, conditions, laid).
  DERIVED. THE GIVEN ROWS OF THIS SEAT. 5 by the template 'for every input the law returns true; each argument reads behind the call as it read before'; 0 by the template 'total and deterministic' (their statements: YtjapbmaibgplkaaTotals.lean).
  GIVEN WITH THE SEED: the statements are not yours to turn. If you find one false, say at which input.
  Laid BY PROGRAM, IN A SANDBOX (cutbox-rows.mjs): the forced cells as the released guide's own fill.sh prints them over the translation af0cd54845430221… (all of the seat's roots in one cut). By AI agents, Wed Nov 11 2026. No macro, syntax, notation, axiom, sorry.
-/
import Derived.Test.YtjapbmaibgplkaaChecked
import GoSem.Claim
import GoSem.ClaimJoined
import GoSem.ClaimMapViews
import Derived.JoinedTies
import Derived.KernelRfl
namespace Go.Proofs.Ytjapbmaibgplkaa
/- THE CELL 'sum', in the pinned program and in every row, IS THE sha256 OF THE DUMP (.gsa) THAT YtjapbmaibgplkaaProg.lean LOADS. Nothing in Lean hashes anything: it is a label: what it is worth is what the hold of that sum in a sandbox is worth. -/
noncomputable def Try.pinned : Pinned := { name := "ytjapbmaibgplkaa", sum := "af0cd54845430221d971a0d180442ceabda37d8975356780be9e325623ed184c", checked := Try.checked }
namespace Rows
def none {H : Type} : Left H := { results := [], args := [] }

/-- 'laws.FnExactSharesOf': WHATEVER THE INPUT: true; the input reads as it did. -/
def fnExactSharesOfSpec : ChangeSpec := { name := "fnExactSharesOf", fn := fun _ => fun
  | [d] => { results := [.lit (.bool true)], args := [d] }
  | _ => none }
def fnExactSharesOfRow : OpenClaim := { program := "ytjapbmaibgplkaa", sum := "af0cd54845430221d971a0d180442ceabda37d8975356780be9e325623ed184c", func := "loop.example/g01986/laws.FnExactSharesOf", spec := "fnExactSharesOf", unfollowed := true, recurses := true, apart := false }
def FnExactSharesOfSaid : Prop := fnExactSharesOfRow.holds Try.pinned (OpenSpec.ofChange fnExactSharesOfSpec)

/-- ITS FALSE NEIGHBOUR: 'it returns false'. Refute it at one input. -/
def fnExactSharesOfWrong : ChangeSpec := { name := "fnExactSharesOf", fn := fun _ => fun
  | [d] => { results := [.lit (.bool false)], args := [d] }
  | _ => none }
def FnExactSharesOfWrongFalsely : Prop := fnExactSharesOfRow.holds Try.pinned (OpenSpec.ofChange fnExactSharesOfWrong)

/-- 'laws.FnExactWorkDone': WHATEVER THE INPUT: true; the input reads as it did. -/
def fnExactWorkDoneSpec : ChangeSpec := { name := "fnExactWorkDone", fn := fun _ => fun
  | [d] => { results := [.lit (.bool true)], args := [d] }
  | _ => none }
def fnExactWorkDoneRow : OpenClaim := { program := "ytjapbmaibgplkaa", sum := "af0cd54845430221d971a0d180442ceabda37d8975356780be9e325623ed184c", func := "loop.example/g01986/laws.FnExactWorkDone", spec := "fnExactWorkDone", unfollowed := true, recurses := true, apart := false }
def FnExactWorkDoneSaid : Prop := fnExactWorkDoneRow.holds Try.pinned (OpenSpec.ofChange fnExactWorkDoneSpec)

/-- ITS FALSE NEIGHBOUR: 'it returns false'. Refute it at one input. -/
def fnExactWorkDoneWrong : ChangeSpec := { name := "fnExactWorkDone", fn := fun _ => fun
  | [d] => { results := [.lit (.bool false)], args := [d] }
  | _ => none }
def FnExactWorkDoneWrongFalsely : Prop := fnExactWorkDoneRow.holds Try.pinned (OpenSpec.ofChange fnExactWorkDoneWrong)

/-- 'laws.FnExactTenantCharge': WHATEVER THE INPUT: true; the input reads as it did. -/
def fnExactTenantChargeSpec : ChangeSpec := { name := "fnExactTenantCharge", fn := fun _ => fun
  | [d1, d2] => { results := [.lit (.bool true)], args := [d1, d2] }
  | _ => none }
def fnExactTenantChargeRow : OpenClaim := { program := "ytjapbmaibgplkaa", sum := "af0cd54845430221d971a0d180442ceabda37d8975356780be9e325623ed184c", func := "loop.example/g01986/laws.FnExactTenantCharge", spec := "fnExactTenantCharge", unfollowed := true, recurses := true, apart := false }
def FnExactTenantChargeSaid : Prop := fnExactTenantChargeRow.holds Try.pinned (OpenSpec.ofChange fnExactTenantChargeSpec)

/-- ITS FALSE NEIGHBOUR: 'it returns false'. Refute it at one input. -/
def fnExactTenantChargeWrong : ChangeSpec := { name := "fnExactTenantCharge", fn := fun _ => fun
  | [d1, d2] => { results := [.lit (.bool false)], args := [d1, d2] }
  | _ => none }
def FnExactTenantChargeWrongFalsely : Prop := fnExactTenantChargeRow.holds Try.pinned (OpenSpec.ofChange fnExactTenantChargeWrong)

/-- 'laws.FnExactCoalitionCost': WHATEVER THE INPUT: true; the input reads as it did. -/
def fnExactCoalitionCostSpec : ChangeSpec := { name := "fnExactCoalitionCost", fn := fun _ => fun
  | [d1, d2] => { results := [.lit (.bool true)], args := [d1, d2] }
  | _ => none }
def fnExactCoalitionCostRow : OpenClaim := { program := "ytjapbmaibgplkaa", sum := "af0cd54845430221d971a0d180442ceabda37d8975356780be9e325623ed184c", func := "loop.example/g01986/laws.FnExactCoalitionCost", spec := "fnExactCoalitionCost", unfollowed := true, recurses := true, apart := false }
def FnExactCoalitionCostSaid : Prop := fnExactCoalitionCostRow.holds Try.pinned (OpenSpec.ofChange fnExactCoalitionCostSpec)

/-- ITS FALSE NEIGHBOUR: 'it returns false'. Refute it at one input. -/
def fnExactCoalitionCostWrong : ChangeSpec := { name := "fnExactCoalitionCost", fn := fun _ => fun
  | [d1, d2] => { results := [.lit (.bool false)], args := [d1, d2] }
  | _ => none }
def FnExactCoalitionCostWrongFalsely : Prop := fnExactCoalitionCostRow.holds Try.pinned (OpenSpec.ofChange fnExactCoalitionCostWrong)

/-- 'laws.FnExactTotalWork': WHATEVER THE INPUT: true; the input reads as it did. -/
def fnExactTotalWorkSpec : ChangeSpec := { name := "fnExactTotalWork", fn := fun _ => fun
  | [d] => { results := [.lit (.bool true)], args := [d] }
  | _ => none }
def fnExactTotalWorkRow : OpenClaim := { program := "ytjapbmaibgplkaa", sum := "af0cd54845430221d971a0d180442ceabda37d8975356780be9e325623ed184c", func := "loop.example/g01986/laws.FnExactTotalWork", spec := "fnExactTotalWork", unfollowed := true, recurses := true, apart := false }
def FnExactTotalWorkSaid : Prop := fnExactTotalWorkRow.holds Try.pinned (OpenSpec.ofChange fnExactTotalWorkSpec)

/-- ITS FALSE NEIGHBOUR: 'it returns false'. Refute it at one input. -/
def fnExactTotalWorkWrong : ChangeSpec := { name := "fnExactTotalWork", fn := fun _ => fun
  | [d] => { results := [.lit (.bool false)], args := [d] }
  | _ => none }
def FnExactTotalWorkWrongFalsely : Prop := fnExactTotalWorkRow.holds Try.pinned (OpenSpec.ofChange fnExactTotalWorkWrong)

/- THE SECOND FORM. 'bulk': how many values and letters a reading holds, each counted each time it is reached (what is shared counts as often as it is met; a slice's spare places count too). A statement '..UptoSaid' is the law's where the arguments, and the package variables that the reading takes, are together of bulk at most 1048576: NARROWER than '..Said'. Prove '..Said' where nothing that the law and all that it calls make is longer than what came in: it says more and counts as full. Else prove '..UptoSaid'. A law counts once. -/
mutual
def uptoBulk {H : Type} : DataW H → Nat
  | .lit (.string bytes) => bytes.length + 1
  | .lit _ => 1
  | .nil => 1
  | .ptr d => uptoBulk d + 1
  | .slice elems spare => uptoBulkAll elems + uptoBulkAll spare + 1
  | .agg parts => uptoBulkAll parts + 1
  | .iface _ d => uptoBulk d + 1
  | .map entries => uptoBulkEntries entries + 1
  | .held _ => 1
def uptoBulkAll {H : Type} : List (DataW H) → Nat
  | [] => 0
  | d :: r => uptoBulk d + uptoBulkAll r
def uptoBulkEntries {H : Type} : List (Lit × DataW H) → Nat
  | [] => 0
  | x :: r => uptoBulkEntry x + uptoBulkEntries r
def uptoBulkEntry {H : Type} : Lit × DataW H → Nat
  | (.string bytes, d) => bytes.length + uptoBulk d + 1
  | (_, d) => uptoBulk d + 1
 end
def uptoSmall : (H : Type) → List (DataW H) → Bool := fun _ ds => decide (uptoBulkAll ds ≤ 1048576)
def OpenSpec.upto (s : _root_.Go.ChangeSpec) : _root_.Go.OpenSpec := { _root_.Go.OpenSpec.ofChange s with cond := some uptoSmall }

/-- 'laws.FnExactSharesOf', WHERE WHAT IT READS IS OF BULK AT MOST 1048576: true; the input reads as it did. -/
def fnExactSharesOfUptoRow : OpenClaim := { program := "ytjapbmaibgplkaa", sum := "af0cd54845430221d971a0d180442ceabda37d8975356780be9e325623ed184c", func := "loop.example/g01986/laws.FnExactSharesOf", spec := "fnExactSharesOf", unfollowed := true, recurses := true, apart := false, narrowed := true }
def FnExactSharesOfUptoSaid : Prop := fnExactSharesOfUptoRow.holds Try.pinned (OpenSpec.upto fnExactSharesOfSpec)

/-- 'laws.FnExactWorkDone', WHERE WHAT IT READS IS OF BULK AT MOST 1048576: true; the input reads as it did. -/
def fnExactWorkDoneUptoRow : OpenClaim := { program := "ytjapbmaibgplkaa", sum := "af0cd54845430221d971a0d180442ceabda37d8975356780be9e325623ed184c", func := "loop.example/g01986/laws.FnExactWorkDone", spec := "fnExactWorkDone", unfollowed := true, recurses := true, apart := false, narrowed := true }
def FnExactWorkDoneUptoSaid : Prop := fnExactWorkDoneUptoRow.holds Try.pinned (OpenSpec.upto fnExactWorkDoneSpec)

/-- 'laws.FnExactTenantCharge', WHERE WHAT IT READS IS OF BULK AT MOST 1048576: true; the input reads as it did. -/
def fnExactTenantChargeUptoRow : OpenClaim := { program := "ytjapbmaibgplkaa", sum := "af0cd54845430221d971a0d180442ceabda37d8975356780be9e325623ed184c", func := "loop.example/g01986/laws.FnExactTenantCharge", spec := "fnExactTenantCharge", unfollowed := true, recurses := true, apart := false, narrowed := true }
def FnExactTenantChargeUptoSaid : Prop := fnExactTenantChargeUptoRow.holds Try.pinned (OpenSpec.upto fnExactTenantChargeSpec)

/-- 'laws.FnExactCoalitionCost', WHERE WHAT IT READS IS OF BULK AT MOST 1048576: true; the input reads as it did. -/
def fnExactCoalitionCostUptoRow : OpenClaim := { program := "ytjapbmaibgplkaa", sum := "af0cd54845430221d971a0d180442ceabda37d8975356780be9e325623ed184c", func := "loop.example/g01986/laws.FnExactCoalitionCost", spec := "fnExactCoalitionCost", unfollowed := true, recurses := true, apart := false, narrowed := true }
def FnExactCoalitionCostUptoSaid : Prop := fnExactCoalitionCostUptoRow.holds Try.pinned (OpenSpec.upto fnExactCoalitionCostSpec)

/-- 'laws.FnExactTotalWork', WHERE WHAT IT READS IS OF BULK AT MOST 1048576: true; the input reads as it did. -/
def fnExactTotalWorkUptoRow : OpenClaim := { program := "ytjapbmaibgplkaa", sum := "af0cd54845430221d971a0d180442ceabda37d8975356780be9e325623ed184c", func := "loop.example/g01986/laws.FnExactTotalWork", spec := "fnExactTotalWork", unfollowed := true, recurses := true, apart := false, narrowed := true }
def FnExactTotalWorkUptoSaid : Prop := fnExactTotalWorkUptoRow.holds Try.pinned (OpenSpec.upto fnExactTotalWorkSpec)

end Rows
end Go.Proofs.Ytjapbmaibgplkaa
