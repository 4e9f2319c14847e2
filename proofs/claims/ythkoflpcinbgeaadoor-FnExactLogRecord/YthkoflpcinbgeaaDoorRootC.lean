/- The model's look at a root: l02Pointer, l02Pointers, l02Root. -/
import Derived.Test.YthkoflpcinbgeaaDoorRootB
import Derived.Test.YthkoflpcinbgeaaDoorPut
import Derived.Test.YthkoflpcinbgeaaDoorInts
import Derived.Test.YthkoflpcinbgeaaDoorMarks

namespace Go.Proofs.YthkoflpcinbgeaaDoor
set_option linter.unusedVariables false
set_option linter.unusedSimpArgs false
open Go.RowKit

def ptrB (x n : Int) : Bool := decide (x = 0) || (decide (2 ≤ x) && decide (x < n))
end Go.Proofs.YthkoflpcinbgeaaDoor
