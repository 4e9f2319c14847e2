/- The program tells a root: told at Root; DecodeRoot. -/
import Derived.Test.YtabncodahnaakaaDoorZk09
import Derived.Test.YtabncodahnaakaaDoorZk15
namespace Go.Proofs.YtabncodahnaakaaDoor
set_option linter.unusedVariables false
set_option linter.unusedSimpArgs false
open Go.RowKit


def noRoot : List Int := List.replicate 15 0

end Go.Proofs.YtabncodahnaakaaDoor
