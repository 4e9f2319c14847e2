/- The program tells a root: told at Root; DecodeRoot. -/
import Derived.Test.YtelcphnlkdffbaaDoorRootR
import Derived.Test.YtelcphnlkdffbaaDoorRootI

namespace Go.Proofs.YtelcphnlkdffbaaDoor
set_option linter.unusedVariables false
set_option linter.unusedSimpArgs false
open Go.RowKit


def noRoot : List Int := List.replicate 15 0

end Go.Proofs.YtelcphnlkdffbaaDoor
