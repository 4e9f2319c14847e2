/- The program's look at an inode: inodeFault. -/
import Derived.Test.YtcciaojdceejcaaDoorInoB
import Derived.Test.YtcciaojdceejcaaDoorRootG
namespace Go.Proofs.YtcciaojdceejcaaDoor
set_option linter.unusedVariables false
set_option linter.unusedSimpArgs false
open Go.RowKit


end Go.Proofs.YtcciaojdceejcaaDoor
