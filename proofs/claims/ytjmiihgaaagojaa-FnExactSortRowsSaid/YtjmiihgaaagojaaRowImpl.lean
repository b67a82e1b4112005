/-
  The program's contracts of the four functions on rows, together.
-/
import Derived.Test.YtjmiihgaaagojaaRowAreP
import Derived.Test.YtjmiihgaaagojaaRowEqQ
import Derived.Test.YtjmiihgaaagojaaRowSortP
import Derived.Test.YtjmiihgaaagojaaRowLawsS
import Derived.Test.YtjmiihgaaagojaaRowLawSort
