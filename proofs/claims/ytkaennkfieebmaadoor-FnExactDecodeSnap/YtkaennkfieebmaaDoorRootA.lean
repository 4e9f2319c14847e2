/- Structs and arrays of integers by value: a copy of twelve, a copy of a root. -/
import Derived.Test.YtkaennkfieebmaaDoorBase
import Derived.Test.YtkaennkfieebmaaDoorRows
import Derived.Test.YtkaennkfieebmaaDoorCells
import Derived.WalkLawsBesides
import Derived.Deep.MidRow
import Derived.Deep.WholeRow
import Derived.Laws.CopyOwn

namespace Go.Proofs.YtkaennkfieebmaaDoor
set_option linter.unusedVariables false
set_option linter.unusedSimpArgs false
open Go.RowKit

theorem info12 : (Tryd.prog.info? 23).map (·.size) = some 12 := by kernel_rfl
theorem info15 : (Tryd.prog.info? 25).map (·.size) = some 15 := by kernel_rfl

end Go.Proofs.YtkaennkfieebmaaDoor
