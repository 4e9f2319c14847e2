/- The program's look at an inode: inodeFault. -/
import Derived.Test.YtkaennkfieebmaaDoorInoB
import Derived.Test.YtkaennkfieebmaaDoorRootG
namespace Go.Proofs.YtkaennkfieebmaaDoor
set_option linter.unusedVariables false
set_option linter.unusedSimpArgs false
open Go.RowKit


end Go.Proofs.YtkaennkfieebmaaDoor
