/-
  NARROWER THAN 'FOR EVERY INPUT', by the rows' own cells (each row's printed sentence says how): FnExactPromisedSteps: laid · FnExactIsPromiseKept: laid · FnExactCanAdmit: ifaces, laid · FnExactResultOf: laid · FnExactAdmitQuery: laid · FnExactCancelQuery: laid · FnExactUpdateEngine: laid · FnExactStepEngine: laid · FnExactRunEngine: laid · FnExactFinishEngine: laid.
  DERIVED. THE GIVEN ROWS OF THIS SEAT. 10 by the template 'for every input the law returns true; each argument reads behind the call as it read before'; 0 by the template 'total and deterministic' (their statements: YtnepfacnmaoieaaGreatDoorTotals.lean).
  GIVEN WITH THE SEED: the statements are not yours to turn. If you find one false, say at which input.
  Laid BY PROGRAM, IN A SANDBOX (cutbox-rows.mjs): the forced cells as the released guide's own fill.sh prints them over the translation bd30a64226445a33… (all of the seat's roots in one cut). By AI agents, Wed Nov 11 2026. No macro, syntax, notation, axiom, sorry.
-/
import Derived.Test.YtnepfacnmaoieaaGreatDoorChecked
import GoSem.Claim
import GoSem.ClaimJoined
import GoSem.ClaimMapViews
import Derived.JoinedTies
import Derived.KernelRfl
namespace Go.Proofs.YtnepfacnmaoieaaGreatDoor
/- THE CELL 'sum', in the pinned program and in every row, IS THE sha256 OF THE DUMP (.gsa) THAT YtnepfacnmaoieaaGreatDoorProg.lean LOADS. Nothing in Lean hashes anything: it is a label: what it is worth is what the hold of that sum in a sandbox is worth. -/
noncomputable def Tryz.pinned : Pinned := { name := "ytnepfacnmaoieaagreatdoor", sum := "bd30a64226445a33a0215ba9ba747058d3e11080609d76bd2df91ce23112d6c5", checked := Tryz.checked }
namespace Rows
def none {H : Type} : Left H := { results := [], args := [] }

/- WHAT THE LISTED PACKAGE-LEVEL VARIABLES READ AS WHEN THE CALL BEGINS. Each datum BY PROGRAM (the guide's laid-datum.mjs) off the statement by which the dump's own 'gosem.cut.vars' lays the variable. In a bare row this is a premise. The card (YtnepfacnmaoieaaGreatDoorCards.lean) ties it to the program's text. -/
def laid_loop_example_g01986_impl_probeOrders {H : Type} : DataW H := .agg [.agg [.lit (.int .i64 0), .lit (.int .i64 1), .lit (.int .i64 2)], .agg [.lit (.int .i64 0), .lit (.int .i64 2), .lit (.int .i64 1)], .agg [.lit (.int .i64 1), .lit (.int .i64 0), .lit (.int .i64 2)], .agg [.lit (.int .i64 1), .lit (.int .i64 2), .lit (.int .i64 0)], .agg [.lit (.int .i64 2), .lit (.int .i64 0), .lit (.int .i64 1)], .agg [.lit (.int .i64 2), .lit (.int .i64 1), .lit (.int .i64 0)]]
def laid_errors_errorType {H : Type} : DataW H := .iface "internal/reflectlite.rtype" (.agg [.ptr (.lit (.string [101, 114, 114, 111, 114]))])
def laid_loop_example_g01986_impl_errRefused {H : Type} : DataW H := .iface "*errors.errorString" (.ptr (.agg [.lit (.string [116, 104, 101, 32, 113, 117, 101, 114, 121, 32, 105, 115, 32, 114, 101, 102, 117, 115, 101, 100])]))

/-- 'laws.FnExactPromisedSteps': WHATEVER THE INPUT: true; the input reads as it did. -/
def fnExactPromisedStepsSpec : ChangeSpec := { name := "fnExactPromisedSteps", vars := ["loop.example/g01986/impl.probeOrders"], fn := fun _ => fun
  | [d1, d2, g1] => { results := [.lit (.bool true)], args := [d1, d2], vars := [g1] }
  | _ => none }
def fnExactPromisedStepsRow : OpenClaim := { program := "ytnepfacnmaoieaagreatdoor", sum := "bd30a64226445a33a0215ba9ba747058d3e11080609d76bd2df91ce23112d6c5", func := "loop.example/g01986/laws.FnExactPromisedSteps", spec := "fnExactPromisedSteps", unfollowed := true, recurses := true, named := ["loop.example/g01986/impl.probeOrders"], apart := false, laid := [("loop.example/g01986/impl.probeOrders", laid_loop_example_g01986_impl_probeOrders)] }
def FnExactPromisedStepsSaid : Prop := fnExactPromisedStepsRow.holds Tryz.pinned (OpenSpec.ofChange fnExactPromisedStepsSpec)

/-- ITS FALSE NEIGHBOUR: 'it returns false'. Refute it at one input. -/
def fnExactPromisedStepsWrong : ChangeSpec := { name := "fnExactPromisedSteps", vars := ["loop.example/g01986/impl.probeOrders"], fn := fun _ => fun
  | [d1, d2, g1] => { results := [.lit (.bool false)], args := [d1, d2], vars := [g1] }
  | _ => none }
def FnExactPromisedStepsWrongFalsely : Prop := fnExactPromisedStepsRow.holds Tryz.pinned (OpenSpec.ofChange fnExactPromisedStepsWrong)

/-- 'laws.FnExactIsPromiseKept': WHATEVER THE INPUT: true; the input reads as it did. -/
def fnExactIsPromiseKeptSpec : ChangeSpec := { name := "fnExactIsPromiseKept", vars := ["loop.example/g01986/impl.probeOrders"], fn := fun _ => fun
  | [d, g1] => { results := [.lit (.bool true)], args := [d], vars := [g1] }
  | _ => none }
def fnExactIsPromiseKeptRow : OpenClaim := { program := "ytnepfacnmaoieaagreatdoor", sum := "bd30a64226445a33a0215ba9ba747058d3e11080609d76bd2df91ce23112d6c5", func := "loop.example/g01986/laws.FnExactIsPromiseKept", spec := "fnExactIsPromiseKept", unfollowed := true, recurses := true, named := ["loop.example/g01986/impl.probeOrders"], apart := false, laid := [("loop.example/g01986/impl.probeOrders", laid_loop_example_g01986_impl_probeOrders)] }
def FnExactIsPromiseKeptSaid : Prop := fnExactIsPromiseKeptRow.holds Tryz.pinned (OpenSpec.ofChange fnExactIsPromiseKeptSpec)

/-- ITS FALSE NEIGHBOUR: 'it returns false'. Refute it at one input. -/
def fnExactIsPromiseKeptWrong : ChangeSpec := { name := "fnExactIsPromiseKept", vars := ["loop.example/g01986/impl.probeOrders"], fn := fun _ => fun
  | [d, g1] => { results := [.lit (.bool false)], args := [d], vars := [g1] }
  | _ => none }
def FnExactIsPromiseKeptWrongFalsely : Prop := fnExactIsPromiseKeptRow.holds Tryz.pinned (OpenSpec.ofChange fnExactIsPromiseKeptWrong)

/-- 'laws.FnExactCanAdmit': WHATEVER THE INPUT: true; the input reads as it did. -/
def fnExactCanAdmitSpec : ChangeSpec := { name := "fnExactCanAdmit", vars := ["loop.example/g01986/impl.errRefused", "loop.example/g01986/impl.probeOrders"], fn := fun _ => fun
  | [d1, d2, d3, d4, g1, g2] => { results := [.lit (.bool true)], args := [d1, d2, d3, d4], vars := [g1, g2] }
  | _ => none }
def fnExactCanAdmitRow : OpenClaim := { program := "ytnepfacnmaoieaagreatdoor", sum := "bd30a64226445a33a0215ba9ba747058d3e11080609d76bd2df91ce23112d6c5", func := "loop.example/g01986/laws.FnExactCanAdmit", spec := "fnExactCanAdmit", inPlace := ["internal/reflectlite.ValueOf", "(internal/reflectlite.Value).Type", "(internal/reflectlite.Value).IsNil", "internal/reflectlite.TypeOf", "(internal/reflectlite.Value).Elem", "(internal/reflectlite.Value).Set"], unfollowed := true, recurses := true, named := ["loop.example/g01986/impl.errRefused", "loop.example/g01986/impl.probeOrders", "errors.errorType"], ifaces := true, apart := false, laid := [("errors.errorType", laid_errors_errorType), ("loop.example/g01986/impl.probeOrders", laid_loop_example_g01986_impl_probeOrders), ("loop.example/g01986/impl.errRefused", laid_loop_example_g01986_impl_errRefused)] }
def FnExactCanAdmitSaid : Prop := fnExactCanAdmitRow.holds Tryz.pinned (OpenSpec.ofChange fnExactCanAdmitSpec)

/-- ITS FALSE NEIGHBOUR: 'it returns false'. Refute it at one input. -/
def fnExactCanAdmitWrong : ChangeSpec := { name := "fnExactCanAdmit", vars := ["loop.example/g01986/impl.errRefused", "loop.example/g01986/impl.probeOrders"], fn := fun _ => fun
  | [d1, d2, d3, d4, g1, g2] => { results := [.lit (.bool false)], args := [d1, d2, d3, d4], vars := [g1, g2] }
  | _ => none }
def FnExactCanAdmitWrongFalsely : Prop := fnExactCanAdmitRow.holds Tryz.pinned (OpenSpec.ofChange fnExactCanAdmitWrong)

/-- 'laws.FnExactResultOf': WHATEVER THE INPUT: true; the input reads as it did. -/
def fnExactResultOfSpec : ChangeSpec := { name := "fnExactResultOf", vars := ["loop.example/g01986/impl.probeOrders"], fn := fun _ => fun
  | [d1, d2, g1] => { results := [.lit (.bool true)], args := [d1, d2], vars := [g1] }
  | _ => none }
def fnExactResultOfRow : OpenClaim := { program := "ytnepfacnmaoieaagreatdoor", sum := "bd30a64226445a33a0215ba9ba747058d3e11080609d76bd2df91ce23112d6c5", func := "loop.example/g01986/laws.FnExactResultOf", spec := "fnExactResultOf", unfollowed := true, recurses := true, named := ["loop.example/g01986/impl.probeOrders"], apart := false, laid := [("loop.example/g01986/impl.probeOrders", laid_loop_example_g01986_impl_probeOrders)] }
def FnExactResultOfSaid : Prop := fnExactResultOfRow.holds Tryz.pinned (OpenSpec.ofChange fnExactResultOfSpec)

/-- ITS FALSE NEIGHBOUR: 'it returns false'. Refute it at one input. -/
def fnExactResultOfWrong : ChangeSpec := { name := "fnExactResultOf", vars := ["loop.example/g01986/impl.probeOrders"], fn := fun _ => fun
  | [d1, d2, g1] => { results := [.lit (.bool false)], args := [d1, d2], vars := [g1] }
  | _ => none }
def FnExactResultOfWrongFalsely : Prop := fnExactResultOfRow.holds Tryz.pinned (OpenSpec.ofChange fnExactResultOfWrong)

/-- 'laws.FnExactAdmitQuery': WHATEVER THE INPUT: true; the input reads as it did. -/
def fnExactAdmitQuerySpec : ChangeSpec := { name := "fnExactAdmitQuery", vars := ["loop.example/g01986/impl.probeOrders"], fn := fun _ => fun
  | [d1, d2, d3, g1] => { results := [.lit (.bool true)], args := [d1, d2, d3], vars := [g1] }
  | _ => none }
def fnExactAdmitQueryRow : OpenClaim := { program := "ytnepfacnmaoieaagreatdoor", sum := "bd30a64226445a33a0215ba9ba747058d3e11080609d76bd2df91ce23112d6c5", func := "loop.example/g01986/laws.FnExactAdmitQuery", spec := "fnExactAdmitQuery", unfollowed := true, recurses := true, named := ["loop.example/g01986/impl.probeOrders"], apart := false, laid := [("loop.example/g01986/impl.probeOrders", laid_loop_example_g01986_impl_probeOrders)] }
def FnExactAdmitQuerySaid : Prop := fnExactAdmitQueryRow.holds Tryz.pinned (OpenSpec.ofChange fnExactAdmitQuerySpec)

/-- ITS FALSE NEIGHBOUR: 'it returns false'. Refute it at one input. -/
def fnExactAdmitQueryWrong : ChangeSpec := { name := "fnExactAdmitQuery", vars := ["loop.example/g01986/impl.probeOrders"], fn := fun _ => fun
  | [d1, d2, d3, g1] => { results := [.lit (.bool false)], args := [d1, d2, d3], vars := [g1] }
  | _ => none }
def FnExactAdmitQueryWrongFalsely : Prop := fnExactAdmitQueryRow.holds Tryz.pinned (OpenSpec.ofChange fnExactAdmitQueryWrong)

/-- 'laws.FnExactCancelQuery': WHATEVER THE INPUT: true; the input reads as it did. -/
def fnExactCancelQuerySpec : ChangeSpec := { name := "fnExactCancelQuery", vars := ["loop.example/g01986/impl.probeOrders"], fn := fun _ => fun
  | [d1, d2, g1] => { results := [.lit (.bool true)], args := [d1, d2], vars := [g1] }
  | _ => none }
def fnExactCancelQueryRow : OpenClaim := { program := "ytnepfacnmaoieaagreatdoor", sum := "bd30a64226445a33a0215ba9ba747058d3e11080609d76bd2df91ce23112d6c5", func := "loop.example/g01986/laws.FnExactCancelQuery", spec := "fnExactCancelQuery", unfollowed := true, recurses := true, named := ["loop.example/g01986/impl.probeOrders"], apart := false, laid := [("loop.example/g01986/impl.probeOrders", laid_loop_example_g01986_impl_probeOrders)] }
def FnExactCancelQuerySaid : Prop := fnExactCancelQueryRow.holds Tryz.pinned (OpenSpec.ofChange fnExactCancelQuerySpec)

/-- ITS FALSE NEIGHBOUR: 'it returns false'. Refute it at one input. -/
def fnExactCancelQueryWrong : ChangeSpec := { name := "fnExactCancelQuery", vars := ["loop.example/g01986/impl.probeOrders"], fn := fun _ => fun
  | [d1, d2, g1] => { results := [.lit (.bool false)], args := [d1, d2], vars := [g1] }
  | _ => none }
def FnExactCancelQueryWrongFalsely : Prop := fnExactCancelQueryRow.holds Tryz.pinned (OpenSpec.ofChange fnExactCancelQueryWrong)

/-- 'laws.FnExactUpdateEngine': WHATEVER THE INPUT: true; the input reads as it did. -/
def fnExactUpdateEngineSpec : ChangeSpec := { name := "fnExactUpdateEngine", vars := ["loop.example/g01986/impl.probeOrders"], fn := fun _ => fun
  | [d1, d2, g1] => { results := [.lit (.bool true)], args := [d1, d2], vars := [g1] }
  | _ => none }
def fnExactUpdateEngineRow : OpenClaim := { program := "ytnepfacnmaoieaagreatdoor", sum := "bd30a64226445a33a0215ba9ba747058d3e11080609d76bd2df91ce23112d6c5", func := "loop.example/g01986/laws.FnExactUpdateEngine", spec := "fnExactUpdateEngine", unfollowed := true, recurses := true, named := ["loop.example/g01986/impl.probeOrders"], apart := false, laid := [("loop.example/g01986/impl.probeOrders", laid_loop_example_g01986_impl_probeOrders)] }
def FnExactUpdateEngineSaid : Prop := fnExactUpdateEngineRow.holds Tryz.pinned (OpenSpec.ofChange fnExactUpdateEngineSpec)

/-- ITS FALSE NEIGHBOUR: 'it returns false'. Refute it at one input. -/
def fnExactUpdateEngineWrong : ChangeSpec := { name := "fnExactUpdateEngine", vars := ["loop.example/g01986/impl.probeOrders"], fn := fun _ => fun
  | [d1, d2, g1] => { results := [.lit (.bool false)], args := [d1, d2], vars := [g1] }
  | _ => none }
def FnExactUpdateEngineWrongFalsely : Prop := fnExactUpdateEngineRow.holds Tryz.pinned (OpenSpec.ofChange fnExactUpdateEngineWrong)

/-- 'laws.FnExactStepEngine': WHATEVER THE INPUT: true; the input reads as it did. -/
def fnExactStepEngineSpec : ChangeSpec := { name := "fnExactStepEngine", vars := ["loop.example/g01986/impl.probeOrders"], fn := fun _ => fun
  | [d, g1] => { results := [.lit (.bool true)], args := [d], vars := [g1] }
  | _ => none }
def fnExactStepEngineRow : OpenClaim := { program := "ytnepfacnmaoieaagreatdoor", sum := "bd30a64226445a33a0215ba9ba747058d3e11080609d76bd2df91ce23112d6c5", func := "loop.example/g01986/laws.FnExactStepEngine", spec := "fnExactStepEngine", unfollowed := true, recurses := true, named := ["loop.example/g01986/impl.probeOrders"], apart := false, laid := [("loop.example/g01986/impl.probeOrders", laid_loop_example_g01986_impl_probeOrders)] }
def FnExactStepEngineSaid : Prop := fnExactStepEngineRow.holds Tryz.pinned (OpenSpec.ofChange fnExactStepEngineSpec)

/-- ITS FALSE NEIGHBOUR: 'it returns false'. Refute it at one input. -/
def fnExactStepEngineWrong : ChangeSpec := { name := "fnExactStepEngine", vars := ["loop.example/g01986/impl.probeOrders"], fn := fun _ => fun
  | [d, g1] => { results := [.lit (.bool false)], args := [d], vars := [g1] }
  | _ => none }
def FnExactStepEngineWrongFalsely : Prop := fnExactStepEngineRow.holds Tryz.pinned (OpenSpec.ofChange fnExactStepEngineWrong)

/-- 'laws.FnExactRunEngine': WHATEVER THE INPUT: true; the input reads as it did. -/
def fnExactRunEngineSpec : ChangeSpec := { name := "fnExactRunEngine", vars := ["loop.example/g01986/impl.probeOrders"], fn := fun _ => fun
  | [d1, d2, g1] => { results := [.lit (.bool true)], args := [d1, d2], vars := [g1] }
  | _ => none }
def fnExactRunEngineRow : OpenClaim := { program := "ytnepfacnmaoieaagreatdoor", sum := "bd30a64226445a33a0215ba9ba747058d3e11080609d76bd2df91ce23112d6c5", func := "loop.example/g01986/laws.FnExactRunEngine", spec := "fnExactRunEngine", unfollowed := true, recurses := true, named := ["loop.example/g01986/impl.probeOrders"], apart := false, laid := [("loop.example/g01986/impl.probeOrders", laid_loop_example_g01986_impl_probeOrders)] }
def FnExactRunEngineSaid : Prop := fnExactRunEngineRow.holds Tryz.pinned (OpenSpec.ofChange fnExactRunEngineSpec)

/-- ITS FALSE NEIGHBOUR: 'it returns false'. Refute it at one input. -/
def fnExactRunEngineWrong : ChangeSpec := { name := "fnExactRunEngine", vars := ["loop.example/g01986/impl.probeOrders"], fn := fun _ => fun
  | [d1, d2, g1] => { results := [.lit (.bool false)], args := [d1, d2], vars := [g1] }
  | _ => none }
def FnExactRunEngineWrongFalsely : Prop := fnExactRunEngineRow.holds Tryz.pinned (OpenSpec.ofChange fnExactRunEngineWrong)

/-- 'laws.FnExactFinishEngine': WHATEVER THE INPUT: true; the input reads as it did. -/
def fnExactFinishEngineSpec : ChangeSpec := { name := "fnExactFinishEngine", vars := ["loop.example/g01986/impl.probeOrders"], fn := fun _ => fun
  | [d, g1] => { results := [.lit (.bool true)], args := [d], vars := [g1] }
  | _ => none }
def fnExactFinishEngineRow : OpenClaim := { program := "ytnepfacnmaoieaagreatdoor", sum := "bd30a64226445a33a0215ba9ba747058d3e11080609d76bd2df91ce23112d6c5", func := "loop.example/g01986/laws.FnExactFinishEngine", spec := "fnExactFinishEngine", unfollowed := true, recurses := true, named := ["loop.example/g01986/impl.probeOrders"], apart := false, laid := [("loop.example/g01986/impl.probeOrders", laid_loop_example_g01986_impl_probeOrders)] }
def FnExactFinishEngineSaid : Prop := fnExactFinishEngineRow.holds Tryz.pinned (OpenSpec.ofChange fnExactFinishEngineSpec)

/-- ITS FALSE NEIGHBOUR: 'it returns false'. Refute it at one input. -/
def fnExactFinishEngineWrong : ChangeSpec := { name := "fnExactFinishEngine", vars := ["loop.example/g01986/impl.probeOrders"], fn := fun _ => fun
  | [d, g1] => { results := [.lit (.bool false)], args := [d], vars := [g1] }
  | _ => none }
def FnExactFinishEngineWrongFalsely : Prop := fnExactFinishEngineRow.holds Tryz.pinned (OpenSpec.ofChange fnExactFinishEngineWrong)

/- THE SECOND FORM. 'bulk': how many values and letters a reading holds, each counted each time it is reached (what is shared counts as often as it is met; a slice's spare places count too). A statement '..UptoSaid' is the law's where the arguments, and the package variables that the reading takes, are together of bulk at most 1048576: NARROWER than '..Said'. Prove '..Said' where nothing that the law and all that it calls make is longer than what came in: it says more and counts as full. Else prove '..UptoSaid'. A law counts once. -/
mutual
def uptoBulk {H : Type} : DataW H → Nat
  | .lit (.string bytes) => bytes.length + 1
  | .lit _ => 1
  | .nil => 1
  | .ptr d => uptoBulk d + 1
  | .slice elems spare => uptoBulkAll elems + uptoBulkAll spare + 1
  | .agg parts => uptoBulkAll parts + 1
  | .iface _ d => uptoBulk d + 1
  | .map entries => uptoBulkEntries entries + 1
  | .held _ => 1
def uptoBulkAll {H : Type} : List (DataW H) → Nat
  | [] => 0
  | d :: r => uptoBulk d + uptoBulkAll r
def uptoBulkEntries {H : Type} : List (Lit × DataW H) → Nat
  | [] => 0
  | x :: r => uptoBulkEntry x + uptoBulkEntries r
def uptoBulkEntry {H : Type} : Lit × DataW H → Nat
  | (.string bytes, d) => bytes.length + uptoBulk d + 1
  | (_, d) => uptoBulk d + 1
 end
def uptoSmall : (H : Type) → List (DataW H) → Bool := fun _ ds => decide (uptoBulkAll ds ≤ 1048576)
def OpenSpec.upto (s : _root_.Go.ChangeSpec) : _root_.Go.OpenSpec := { _root_.Go.OpenSpec.ofChange s with cond := some uptoSmall }

/-- 'laws.FnExactPromisedSteps', WHERE WHAT IT READS IS OF BULK AT MOST 1048576: true; the input reads as it did. -/
def fnExactPromisedStepsUptoRow : OpenClaim := { program := "ytnepfacnmaoieaagreatdoor", sum := "bd30a64226445a33a0215ba9ba747058d3e11080609d76bd2df91ce23112d6c5", func := "loop.example/g01986/laws.FnExactPromisedSteps", spec := "fnExactPromisedSteps", unfollowed := true, recurses := true, named := ["loop.example/g01986/impl.probeOrders"], apart := false, laid := [("loop.example/g01986/impl.probeOrders", laid_loop_example_g01986_impl_probeOrders)], narrowed := true }
def FnExactPromisedStepsUptoSaid : Prop := fnExactPromisedStepsUptoRow.holds Tryz.pinned (OpenSpec.upto fnExactPromisedStepsSpec)

/-- 'laws.FnExactIsPromiseKept', WHERE WHAT IT READS IS OF BULK AT MOST 1048576: true; the input reads as it did. -/
def fnExactIsPromiseKeptUptoRow : OpenClaim := { program := "ytnepfacnmaoieaagreatdoor", sum := "bd30a64226445a33a0215ba9ba747058d3e11080609d76bd2df91ce23112d6c5", func := "loop.example/g01986/laws.FnExactIsPromiseKept", spec := "fnExactIsPromiseKept", unfollowed := true, recurses := true, named := ["loop.example/g01986/impl.probeOrders"], apart := false, laid := [("loop.example/g01986/impl.probeOrders", laid_loop_example_g01986_impl_probeOrders)], narrowed := true }
def FnExactIsPromiseKeptUptoSaid : Prop := fnExactIsPromiseKeptUptoRow.holds Tryz.pinned (OpenSpec.upto fnExactIsPromiseKeptSpec)

/-- 'laws.FnExactCanAdmit', WHERE WHAT IT READS IS OF BULK AT MOST 1048576: true; the input reads as it did. -/
def fnExactCanAdmitUptoRow : OpenClaim := { program := "ytnepfacnmaoieaagreatdoor", sum := "bd30a64226445a33a0215ba9ba747058d3e11080609d76bd2df91ce23112d6c5", func := "loop.example/g01986/laws.FnExactCanAdmit", spec := "fnExactCanAdmit", inPlace := ["internal/reflectlite.ValueOf", "(internal/reflectlite.Value).Type", "(internal/reflectlite.Value).IsNil", "internal/reflectlite.TypeOf", "(internal/reflectlite.Value).Elem", "(internal/reflectlite.Value).Set"], unfollowed := true, recurses := true, named := ["loop.example/g01986/impl.errRefused", "loop.example/g01986/impl.probeOrders", "errors.errorType"], ifaces := true, apart := false, laid := [("errors.errorType", laid_errors_errorType), ("loop.example/g01986/impl.probeOrders", laid_loop_example_g01986_impl_probeOrders), ("loop.example/g01986/impl.errRefused", laid_loop_example_g01986_impl_errRefused)], narrowed := true }
def FnExactCanAdmitUptoSaid : Prop := fnExactCanAdmitUptoRow.holds Tryz.pinned (OpenSpec.upto fnExactCanAdmitSpec)

/-- 'laws.FnExactResultOf', WHERE WHAT IT READS IS OF BULK AT MOST 1048576: true; the input reads as it did. -/
def fnExactResultOfUptoRow : OpenClaim := { program := "ytnepfacnmaoieaagreatdoor", sum := "bd30a64226445a33a0215ba9ba747058d3e11080609d76bd2df91ce23112d6c5", func := "loop.example/g01986/laws.FnExactResultOf", spec := "fnExactResultOf", unfollowed := true, recurses := true, named := ["loop.example/g01986/impl.probeOrders"], apart := false, laid := [("loop.example/g01986/impl.probeOrders", laid_loop_example_g01986_impl_probeOrders)], narrowed := true }
def FnExactResultOfUptoSaid : Prop := fnExactResultOfUptoRow.holds Tryz.pinned (OpenSpec.upto fnExactResultOfSpec)

/-- 'laws.FnExactAdmitQuery', WHERE WHAT IT READS IS OF BULK AT MOST 1048576: true; the input reads as it did. -/
def fnExactAdmitQueryUptoRow : OpenClaim := { program := "ytnepfacnmaoieaagreatdoor", sum := "bd30a64226445a33a0215ba9ba747058d3e11080609d76bd2df91ce23112d6c5", func := "loop.example/g01986/laws.FnExactAdmitQuery", spec := "fnExactAdmitQuery", unfollowed := true, recurses := true, named := ["loop.example/g01986/impl.probeOrders"], apart := false, laid := [("loop.example/g01986/impl.probeOrders", laid_loop_example_g01986_impl_probeOrders)], narrowed := true }
def FnExactAdmitQueryUptoSaid : Prop := fnExactAdmitQueryUptoRow.holds Tryz.pinned (OpenSpec.upto fnExactAdmitQuerySpec)

/-- 'laws.FnExactCancelQuery', WHERE WHAT IT READS IS OF BULK AT MOST 1048576: true; the input reads as it did. -/
def fnExactCancelQueryUptoRow : OpenClaim := { program := "ytnepfacnmaoieaagreatdoor", sum := "bd30a64226445a33a0215ba9ba747058d3e11080609d76bd2df91ce23112d6c5", func := "loop.example/g01986/laws.FnExactCancelQuery", spec := "fnExactCancelQuery", unfollowed := true, recurses := true, named := ["loop.example/g01986/impl.probeOrders"], apart := false, laid := [("loop.example/g01986/impl.probeOrders", laid_loop_example_g01986_impl_probeOrders)], narrowed := true }
def FnExactCancelQueryUptoSaid : Prop := fnExactCancelQueryUptoRow.holds Tryz.pinned (OpenSpec.upto fnExactCancelQuerySpec)

/-- 'laws.FnExactUpdateEngine', WHERE WHAT IT READS IS OF BULK AT MOST 1048576: true; the input reads as it did. -/
def fnExactUpdateEngineUptoRow : OpenClaim := { program := "ytnepfacnmaoieaagreatdoor", sum := "bd30a64226445a33a0215ba9ba747058d3e11080609d76bd2df91ce23112d6c5", func := "loop.example/g01986/laws.FnExactUpdateEngine", spec := "fnExactUpdateEngine", unfollowed := true, recurses := true, named := ["loop.example/g01986/impl.probeOrders"], apart := false, laid := [("loop.example/g01986/impl.probeOrders", laid_loop_example_g01986_impl_probeOrders)], narrowed := true }
def FnExactUpdateEngineUptoSaid : Prop := fnExactUpdateEngineUptoRow.holds Tryz.pinned (OpenSpec.upto fnExactUpdateEngineSpec)

/-- 'laws.FnExactStepEngine', WHERE WHAT IT READS IS OF BULK AT MOST 1048576: true; the input reads as it did. -/
def fnExactStepEngineUptoRow : OpenClaim := { program := "ytnepfacnmaoieaagreatdoor", sum := "bd30a64226445a33a0215ba9ba747058d3e11080609d76bd2df91ce23112d6c5", func := "loop.example/g01986/laws.FnExactStepEngine", spec := "fnExactStepEngine", unfollowed := true, recurses := true, named := ["loop.example/g01986/impl.probeOrders"], apart := false, laid := [("loop.example/g01986/impl.probeOrders", laid_loop_example_g01986_impl_probeOrders)], narrowed := true }
def FnExactStepEngineUptoSaid : Prop := fnExactStepEngineUptoRow.holds Tryz.pinned (OpenSpec.upto fnExactStepEngineSpec)

/-- 'laws.FnExactRunEngine', WHERE WHAT IT READS IS OF BULK AT MOST 1048576: true; the input reads as it did. -/
def fnExactRunEngineUptoRow : OpenClaim := { program := "ytnepfacnmaoieaagreatdoor", sum := "bd30a64226445a33a0215ba9ba747058d3e11080609d76bd2df91ce23112d6c5", func := "loop.example/g01986/laws.FnExactRunEngine", spec := "fnExactRunEngine", unfollowed := true, recurses := true, named := ["loop.example/g01986/impl.probeOrders"], apart := false, laid := [("loop.example/g01986/impl.probeOrders", laid_loop_example_g01986_impl_probeOrders)], narrowed := true }
def FnExactRunEngineUptoSaid : Prop := fnExactRunEngineUptoRow.holds Tryz.pinned (OpenSpec.upto fnExactRunEngineSpec)

/-- 'laws.FnExactFinishEngine', WHERE WHAT IT READS IS OF BULK AT MOST 1048576: true; the input reads as it did. -/
def fnExactFinishEngineUptoRow : OpenClaim := { program := "ytnepfacnmaoieaagreatdoor", sum := "bd30a64226445a33a0215ba9ba747058d3e11080609d76bd2df91ce23112d6c5", func := "loop.example/g01986/laws.FnExactFinishEngine", spec := "fnExactFinishEngine", unfollowed := true, recurses := true, named := ["loop.example/g01986/impl.probeOrders"], apart := false, laid := [("loop.example/g01986/impl.probeOrders", laid_loop_example_g01986_impl_probeOrders)], narrowed := true }
def FnExactFinishEngineUptoSaid : Prop := fnExactFinishEngineUptoRow.holds Tryz.pinned (OpenSpec.upto fnExactFinishEngineSpec)

end Rows
end Go.Proofs.YtnepfacnmaoieaaGreatDoor
