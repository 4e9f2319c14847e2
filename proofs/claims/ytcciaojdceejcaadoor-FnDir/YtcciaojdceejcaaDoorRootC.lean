/- The model's look at a root: l02Pointer, l02Pointers, l02Root. -/
import Derived.Test.YtcciaojdceejcaaDoorRootB
import Derived.Test.YtcciaojdceejcaaDoorPut
import Derived.Test.YtcciaojdceejcaaDoorInts
import Derived.Test.YtcciaojdceejcaaDoorMarks

namespace Go.Proofs.YtcciaojdceejcaaDoor
set_option linter.unusedVariables false
set_option linter.unusedSimpArgs false
open Go.RowKit

def ptrB (x n : Int) : Bool := decide (x = 0) || (decide (2 ≤ x) && decide (x < n))
end Go.Proofs.YtcciaojdceejcaaDoor
