/-
  NARROWER THAN 'FOR EVERY INPUT', by the rows' own cells (each row's printed sentence says how): FnExactAdmitQuery: laid · FnExactCancelQuery: laid · FnExactUpdateEngine: laid · FnExactSetOrder: laid.
  DERIVED. THE GIVEN ROWS OF THIS SEAT. 4 by the template 'for every input the law returns true; each argument reads behind the call as it read before'; 0 by the template 'total and deterministic' (their statements: YtcolddalajoheaaGreatDoorTotals.lean).
  GIVEN WITH THE SEED: the statements are not yours to turn. If you find one false, say at which input.
  Laid BY PROGRAM, IN A SANDBOX (cutbox-rows.mjs): the forced cells as the released guide's own fill.sh prints them over the translation 27b78bf282418935… (all of the seat's roots in one cut). By AI agents, Wed Nov 11 2026. No macro, syntax, notation, axiom, sorry.
-/
import Derived.Test.YtcolddalajoheaaGreatDoorChecked
import GoSem.Claim
import GoSem.ClaimJoined
import GoSem.ClaimMapViews
import Derived.JoinedTies
import Derived.KernelRfl
namespace Go.Proofs.YtcolddalajoheaaGreatDoor
/- THE CELL 'sum', in the pinned program and in every row, IS THE sha256 OF THE DUMP (.gsa) THAT YtcolddalajoheaaGreatDoorProg.lean LOADS. Nothing in Lean hashes anything: it is a label: what it is worth is what the hold of that sum in a sandbox is worth. -/
noncomputable def Tryz.pinned : Pinned := { name := "ytcolddalajoheaagreatdoor", sum := "27b78bf282418935cdc3df1c275fa9464161cb2ae5d0a9f47ff36d50fe607119", checked := Tryz.checked }
namespace Rows
def none {H : Type} : Left H := { results := [], args := [] }

/- WHAT THE LISTED PACKAGE-LEVEL VARIABLES READ AS WHEN THE CALL BEGINS. Each datum BY PROGRAM (the guide's laid-datum.mjs) off the statement by which the dump's own 'gosem.cut.vars' lays the variable. In a bare row this is a premise. The card (YtcolddalajoheaaGreatDoorCards.lean) ties it to the program's text. -/
def laid_loop_example_g01986_impl_probeOrders {H : Type} : DataW H := .agg [.agg [.lit (.int .i64 0), .lit (.int .i64 1), .lit (.int .i64 2)], .agg [.lit (.int .i64 0), .lit (.int .i64 2), .lit (.int .i64 1)], .agg [.lit (.int .i64 1), .lit (.int .i64 0), .lit (.int .i64 2)], .agg [.lit (.int .i64 1), .lit (.int .i64 2), .lit (.int .i64 0)], .agg [.lit (.int .i64 2), .lit (.int .i64 0), .lit (.int .i64 1)], .agg [.lit (.int .i64 2), .lit (.int .i64 1), .lit (.int .i64 0)]]

/-- 'laws.FnExactAdmitQuery': WHATEVER THE INPUT: true; the input reads as it did. -/
def fnExactAdmitQuerySpec : ChangeSpec := { name := "fnExactAdmitQuery", vars := ["loop.example/g01986/impl.probeOrders"], fn := fun _ => fun
  | [d1, d2, d3, g1] => { results := [.lit (.bool true)], args := [d1, d2, d3], vars := [g1] }
  | _ => none }
def fnExactAdmitQueryRow : OpenClaim := { program := "ytcolddalajoheaagreatdoor", sum := "27b78bf282418935cdc3df1c275fa9464161cb2ae5d0a9f47ff36d50fe607119", func := "loop.example/g01986/laws.FnExactAdmitQuery", spec := "fnExactAdmitQuery", unfollowed := true, recurses := true, named := ["loop.example/g01986/impl.probeOrders"], apart := false, laid := [("loop.example/g01986/impl.probeOrders", laid_loop_example_g01986_impl_probeOrders)] }
def FnExactAdmitQuerySaid : Prop := fnExactAdmitQueryRow.holds Tryz.pinned (OpenSpec.ofChange fnExactAdmitQuerySpec)

/-- ITS FALSE NEIGHBOUR: 'it returns false'. Refute it at one input. -/
def fnExactAdmitQueryWrong : ChangeSpec := { name := "fnExactAdmitQuery", vars := ["loop.example/g01986/impl.probeOrders"], fn := fun _ => fun
  | [d1, d2, d3, g1] => { results := [.lit (.bool false)], args := [d1, d2, d3], vars := [g1] }
  | _ => none }
def FnExactAdmitQueryWrongFalsely : Prop := fnExactAdmitQueryRow.holds Tryz.pinned (OpenSpec.ofChange fnExactAdmitQueryWrong)

/-- 'laws.FnExactCancelQuery': WHATEVER THE INPUT: true; the input reads as it did. -/
def fnExactCancelQuerySpec : ChangeSpec := { name := "fnExactCancelQuery", vars := ["loop.example/g01986/impl.probeOrders"], fn := fun _ => fun
  | [d1, d2, g1] => { results := [.lit (.bool true)], args := [d1, d2], vars := [g1] }
  | _ => none }
def fnExactCancelQueryRow : OpenClaim := { program := "ytcolddalajoheaagreatdoor", sum := "27b78bf282418935cdc3df1c275fa9464161cb2ae5d0a9f47ff36d50fe607119", func := "loop.example/g01986/laws.FnExactCancelQuery", spec := "fnExactCancelQuery", unfollowed := true, recurses := true, named := ["loop.example/g01986/impl.probeOrders"], apart := false, laid := [("loop.example/g01986/impl.probeOrders", laid_loop_example_g01986_impl_probeOrders)] }
def FnExactCancelQuerySaid : Prop := fnExactCancelQueryRow.holds Tryz.pinned (OpenSpec.ofChange fnExactCancelQuerySpec)

/-- ITS FALSE NEIGHBOUR: 'it returns false'. Refute it at one input. -/
def fnExactCancelQueryWrong : ChangeSpec := { name := "fnExactCancelQuery", vars := ["loop.example/g01986/impl.probeOrders"], fn := fun _ => fun
  | [d1, d2, g1] => { results := [.lit (.bool false)], args := [d1, d2], vars := [g1] }
  | _ => none }
def FnExactCancelQueryWrongFalsely : Prop := fnExactCancelQueryRow.holds Tryz.pinned (OpenSpec.ofChange fnExactCancelQueryWrong)

/-- 'laws.FnExactUpdateEngine': WHATEVER THE INPUT: true; the input reads as it did. -/
def fnExactUpdateEngineSpec : ChangeSpec := { name := "fnExactUpdateEngine", vars := ["loop.example/g01986/impl.probeOrders"], fn := fun _ => fun
  | [d1, d2, g1] => { results := [.lit (.bool true)], args := [d1, d2], vars := [g1] }
  | _ => none }
def fnExactUpdateEngineRow : OpenClaim := { program := "ytcolddalajoheaagreatdoor", sum := "27b78bf282418935cdc3df1c275fa9464161cb2ae5d0a9f47ff36d50fe607119", func := "loop.example/g01986/laws.FnExactUpdateEngine", spec := "fnExactUpdateEngine", unfollowed := true, recurses := true, named := ["loop.example/g01986/impl.probeOrders"], apart := false, laid := [("loop.example/g01986/impl.probeOrders", laid_loop_example_g01986_impl_probeOrders)] }
def FnExactUpdateEngineSaid : Prop := fnExactUpdateEngineRow.holds Tryz.pinned (OpenSpec.ofChange fnExactUpdateEngineSpec)

/-- ITS FALSE NEIGHBOUR: 'it returns false'. Refute it at one input. -/
def fnExactUpdateEngineWrong : ChangeSpec := { name := "fnExactUpdateEngine", vars := ["loop.example/g01986/impl.probeOrders"], fn := fun _ => fun
  | [d1, d2, g1] => { results := [.lit (.bool false)], args := [d1, d2], vars := [g1] }
  | _ => none }
def FnExactUpdateEngineWrongFalsely : Prop := fnExactUpdateEngineRow.holds Tryz.pinned (OpenSpec.ofChange fnExactUpdateEngineWrong)

/-- 'laws.FnExactSetOrder': WHATEVER THE INPUT: true; the input reads as it did. -/
def fnExactSetOrderSpec : ChangeSpec := { name := "fnExactSetOrder", vars := ["loop.example/g01986/impl.probeOrders"], fn := fun _ => fun
  | [d1, d2, g1] => { results := [.lit (.bool true)], args := [d1, d2], vars := [g1] }
  | _ => none }
def fnExactSetOrderRow : OpenClaim := { program := "ytcolddalajoheaagreatdoor", sum := "27b78bf282418935cdc3df1c275fa9464161cb2ae5d0a9f47ff36d50fe607119", func := "loop.example/g01986/laws.FnExactSetOrder", spec := "fnExactSetOrder", unfollowed := true, recurses := true, named := ["loop.example/g01986/impl.probeOrders"], apart := false, laid := [("loop.example/g01986/impl.probeOrders", laid_loop_example_g01986_impl_probeOrders)] }
def FnExactSetOrderSaid : Prop := fnExactSetOrderRow.holds Tryz.pinned (OpenSpec.ofChange fnExactSetOrderSpec)

/-- ITS FALSE NEIGHBOUR: 'it returns false'. Refute it at one input. -/
def fnExactSetOrderWrong : ChangeSpec := { name := "fnExactSetOrder", vars := ["loop.example/g01986/impl.probeOrders"], fn := fun _ => fun
  | [d1, d2, g1] => { results := [.lit (.bool false)], args := [d1, d2], vars := [g1] }
  | _ => none }
def FnExactSetOrderWrongFalsely : Prop := fnExactSetOrderRow.holds Tryz.pinned (OpenSpec.ofChange fnExactSetOrderWrong)

/- THE SECOND FORM. 'bulk': how many values and letters a reading holds, each counted each time it is reached (what is shared counts as often as it is met; a slice's spare places count too). A statement '..UptoSaid' is the law's where the arguments, and the package variables that the reading takes, are together of bulk at most 1048576: NARROWER than '..Said'. Prove '..Said' where nothing that the law and all that it calls make is longer than what came in: it says more and counts as full. Else prove '..UptoSaid'. A law counts once. -/
mutual
def uptoBulk {H : Type} : DataW H → Nat
  | .lit (.string bytes) => bytes.length + 1
  | .lit _ => 1
  | .nil => 1
  | .ptr d => uptoBulk d + 1
  | .slice elems spare => uptoBulkAll elems + uptoBulkAll spare + 1
  | .agg parts => uptoBulkAll parts + 1
  | .iface _ d => uptoBulk d + 1
  | .map entries => uptoBulkEntries entries + 1
  | .held _ => 1
def uptoBulkAll {H : Type} : List (DataW H) → Nat
  | [] => 0
  | d :: r => uptoBulk d + uptoBulkAll r
def uptoBulkEntries {H : Type} : List (Lit × DataW H) → Nat
  | [] => 0
  | x :: r => uptoBulkEntry x + uptoBulkEntries r
def uptoBulkEntry {H : Type} : Lit × DataW H → Nat
  | (.string bytes, d) => bytes.length + uptoBulk d + 1
  | (_, d) => uptoBulk d + 1
 end
def uptoSmall : (H : Type) → List (DataW H) → Bool := fun _ ds => decide (uptoBulkAll ds ≤ 1048576)
def OpenSpec.upto (s : _root_.Go.ChangeSpec) : _root_.Go.OpenSpec := { _root_.Go.OpenSpec.ofChange s with cond := some uptoSmall }

/-- 'laws.FnExactAdmitQuery', WHERE WHAT IT READS IS OF BULK AT MOST 1048576: true; the input reads as it did. -/
def fnExactAdmitQueryUptoRow : OpenClaim := { program := "ytcolddalajoheaagreatdoor", sum := "27b78bf282418935cdc3df1c275fa9464161cb2ae5d0a9f47ff36d50fe607119", func := "loop.example/g01986/laws.FnExactAdmitQuery", spec := "fnExactAdmitQuery", unfollowed := true, recurses := true, named := ["loop.example/g01986/impl.probeOrders"], apart := false, laid := [("loop.example/g01986/impl.probeOrders", laid_loop_example_g01986_impl_probeOrders)], narrowed := true }
def FnExactAdmitQueryUptoSaid : Prop := fnExactAdmitQueryUptoRow.holds Tryz.pinned (OpenSpec.upto fnExactAdmitQuerySpec)

/-- 'laws.FnExactCancelQuery', WHERE WHAT IT READS IS OF BULK AT MOST 1048576: true; the input reads as it did. -/
def fnExactCancelQueryUptoRow : OpenClaim := { program := "ytcolddalajoheaagreatdoor", sum := "27b78bf282418935cdc3df1c275fa9464161cb2ae5d0a9f47ff36d50fe607119", func := "loop.example/g01986/laws.FnExactCancelQuery", spec := "fnExactCancelQuery", unfollowed := true, recurses := true, named := ["loop.example/g01986/impl.probeOrders"], apart := false, laid := [("loop.example/g01986/impl.probeOrders", laid_loop_example_g01986_impl_probeOrders)], narrowed := true }
def FnExactCancelQueryUptoSaid : Prop := fnExactCancelQueryUptoRow.holds Tryz.pinned (OpenSpec.upto fnExactCancelQuerySpec)

/-- 'laws.FnExactUpdateEngine', WHERE WHAT IT READS IS OF BULK AT MOST 1048576: true; the input reads as it did. -/
def fnExactUpdateEngineUptoRow : OpenClaim := { program := "ytcolddalajoheaagreatdoor", sum := "27b78bf282418935cdc3df1c275fa9464161cb2ae5d0a9f47ff36d50fe607119", func := "loop.example/g01986/laws.FnExactUpdateEngine", spec := "fnExactUpdateEngine", unfollowed := true, recurses := true, named := ["loop.example/g01986/impl.probeOrders"], apart := false, laid := [("loop.example/g01986/impl.probeOrders", laid_loop_example_g01986_impl_probeOrders)], narrowed := true }
def FnExactUpdateEngineUptoSaid : Prop := fnExactUpdateEngineUptoRow.holds Tryz.pinned (OpenSpec.upto fnExactUpdateEngineSpec)

/-- 'laws.FnExactSetOrder', WHERE WHAT IT READS IS OF BULK AT MOST 1048576: true; the input reads as it did. -/
def fnExactSetOrderUptoRow : OpenClaim := { program := "ytcolddalajoheaagreatdoor", sum := "27b78bf282418935cdc3df1c275fa9464161cb2ae5d0a9f47ff36d50fe607119", func := "loop.example/g01986/laws.FnExactSetOrder", spec := "fnExactSetOrder", unfollowed := true, recurses := true, named := ["loop.example/g01986/impl.probeOrders"], apart := false, laid := [("loop.example/g01986/impl.probeOrders", laid_loop_example_g01986_impl_probeOrders)], narrowed := true }
def FnExactSetOrderUptoSaid : Prop := fnExactSetOrderUptoRow.holds Tryz.pinned (OpenSpec.upto fnExactSetOrderSpec)

end Rows
end Go.Proofs.YtcolddalajoheaaGreatDoor
