/- The program lays a root down: layRoot, EncodeRoot. -/
import Derived.Test.YtjlmeggbgfpilaaDoorRootG
import Derived.Test.YtjlmeggbgfpilaaDoorRootE
import Derived.Test.YtjlmeggbgfpilaaDoorLay
import Derived.Test.YtjlmeggbgfpilaaDoorWords2
import Derived.Deep.RegionHeld

namespace Go.Proofs.YtjlmeggbgfpilaaDoor
set_option linter.unusedVariables false
set_option linter.unusedSimpArgs false
open Go.RowKit

theorem bytesW_append (xs ys : List Int) : bytesW (xs ++ ys) = bytesW xs ++ bytesW ys := by simp [bytesW]

end Go.Proofs.YtjlmeggbgfpilaaDoor
