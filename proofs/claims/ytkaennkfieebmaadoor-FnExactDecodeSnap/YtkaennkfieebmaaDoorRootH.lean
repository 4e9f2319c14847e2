/- The program lays a root down: layRoot, EncodeRoot. -/
import Derived.Test.YtkaennkfieebmaaDoorRootG
import Derived.Test.YtkaennkfieebmaaDoorRootE
import Derived.Test.YtkaennkfieebmaaDoorLay
import Derived.Test.YtkaennkfieebmaaDoorWords2
import Derived.Deep.RegionHeld

namespace Go.Proofs.YtkaennkfieebmaaDoor
set_option linter.unusedVariables false
set_option linter.unusedSimpArgs false
open Go.RowKit

theorem bytesW_append (xs ys : List Int) : bytesW (xs ++ ys) = bytesW xs ++ bytesW ys := by simp [bytesW]

end Go.Proofs.YtkaennkfieebmaaDoor
