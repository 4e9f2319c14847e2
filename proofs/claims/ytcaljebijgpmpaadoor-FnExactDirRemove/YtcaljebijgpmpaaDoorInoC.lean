/- The program's look at an inode: inodeFault. -/
import Derived.Test.YtcaljebijgpmpaaDoorInoB
import Derived.Test.YtcaljebijgpmpaaDoorRootG
namespace Go.Proofs.YtcaljebijgpmpaaDoor
set_option linter.unusedVariables false
set_option linter.unusedSimpArgs false
open Go.RowKit


end Go.Proofs.YtcaljebijgpmpaaDoor
