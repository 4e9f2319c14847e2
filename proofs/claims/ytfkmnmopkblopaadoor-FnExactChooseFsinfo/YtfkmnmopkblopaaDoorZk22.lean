/- The program tells a root: told at Root; DecodeRoot. -/
import Derived.Test.YtfkmnmopkblopaaDoorZk09
import Derived.Test.YtfkmnmopkblopaaDoorZk15
namespace Go.Proofs.YtfkmnmopkblopaaDoor
set_option linter.unusedVariables false
set_option linter.unusedSimpArgs false
open Go.RowKit


def noRoot : List Int := List.replicate 15 0

end Go.Proofs.YtfkmnmopkblopaaDoor
