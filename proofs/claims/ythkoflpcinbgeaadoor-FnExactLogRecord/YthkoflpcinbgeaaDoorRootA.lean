/- Structs and arrays of integers by value: a copy of twelve, a copy of a root. -/
import Derived.Test.YthkoflpcinbgeaaDoorBase
import Derived.Test.YthkoflpcinbgeaaDoorRows
import Derived.Test.YthkoflpcinbgeaaDoorCells
import Derived.WalkLawsBesides
import Derived.Deep.MidRow
import Derived.Deep.WholeRow
import Derived.Laws.CopyOwn

namespace Go.Proofs.YthkoflpcinbgeaaDoor
set_option linter.unusedVariables false
set_option linter.unusedSimpArgs false
open Go.RowKit

end Go.Proofs.YthkoflpcinbgeaaDoor
