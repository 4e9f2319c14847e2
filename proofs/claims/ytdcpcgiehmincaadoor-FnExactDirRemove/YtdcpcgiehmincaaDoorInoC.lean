/- The program's look at an inode: inodeFault. -/
import Derived.Test.YtdcpcgiehmincaaDoorInoB
import Derived.Test.YtdcpcgiehmincaaDoorRootG
namespace Go.Proofs.YtdcpcgiehmincaaDoor
set_option linter.unusedVariables false
set_option linter.unusedSimpArgs false
open Go.RowKit


end Go.Proofs.YtdcpcgiehmincaaDoor
