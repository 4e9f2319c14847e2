/- The model's look at a root: l02Pointer, l02Pointers, l02Root. -/
import Derived.Test.YtdcpcgiehmincaaDoorRootB
import Derived.Test.YtdcpcgiehmincaaDoorPut
import Derived.Test.YtdcpcgiehmincaaDoorInts
import Derived.Test.YtdcpcgiehmincaaDoorMarks

namespace Go.Proofs.YtdcpcgiehmincaaDoor
set_option linter.unusedVariables false
set_option linter.unusedSimpArgs false
open Go.RowKit

def ptrB (x n : Int) : Bool := decide (x = 0) || (decide (2 ≤ x) && decide (x < n))
end Go.Proofs.YtdcpcgiehmincaaDoor
