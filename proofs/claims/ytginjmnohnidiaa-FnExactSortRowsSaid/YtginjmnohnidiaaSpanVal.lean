/-
  Spans: from, to, and a set of numbers. A span by value, and the helpers of the laws on one span.
-/
import Derived.Test.YtginjmnohnidiaaRowVal
namespace Go.Proofs.Ytginjmnohnidiaa
open Go.RowKit
set_option linter.unusedVariables false
/-- A span: from, to, and its set. -/
abbrev SpanD := Int × Int × List Int
abbrev p0D : SpanD := (0, 0, [])
/-- A span in new memory is answered. -/
def FreshSpan (w : World) (r : SpanD) (e : Ending) (w' : World) : Prop := ∃ vv, e = .returned (.agg #[.int .i64 r.1, .int .i64 r.2.1, vv]) ∧ OwnsN w' w.heap.size vv r.2.2 ∧ Below w.heap.size w w'
end Go.Proofs.Ytginjmnohnidiaa
