/- The program tells a root: told at Root; DecodeRoot. -/
import Derived.Test.YtbpkmnaoealkhaaDoorRootR
import Derived.Test.YtbpkmnaoealkhaaDoorRootI

namespace Go.Proofs.YtbpkmnaoealkhaaDoor
set_option linter.unusedVariables false
set_option linter.unusedSimpArgs false
open Go.RowKit


def noRoot : List Int := List.replicate 15 0

end Go.Proofs.YtbpkmnaoealkhaaDoor
