/- The program tells a root: told at Root; DecodeRoot. -/
import Derived.Test.YtehnlobckkebdaaDoorRootR
import Derived.Test.YtehnlobckkebdaaDoorRootI

namespace Go.Proofs.YtehnlobckkebdaaDoor
set_option linter.unusedVariables false
set_option linter.unusedSimpArgs false
open Go.RowKit


def noRoot : List Int := List.replicate 15 0

end Go.Proofs.YtehnlobckkebdaaDoor
