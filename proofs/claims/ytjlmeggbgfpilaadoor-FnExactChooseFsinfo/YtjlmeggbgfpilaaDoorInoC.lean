/- The program's look at an inode: inodeFault. -/
import Derived.Test.YtjlmeggbgfpilaaDoorInoB
import Derived.Test.YtjlmeggbgfpilaaDoorRootG
namespace Go.Proofs.YtjlmeggbgfpilaaDoor
set_option linter.unusedVariables false
set_option linter.unusedSimpArgs false
open Go.RowKit


end Go.Proofs.YtjlmeggbgfpilaaDoor
