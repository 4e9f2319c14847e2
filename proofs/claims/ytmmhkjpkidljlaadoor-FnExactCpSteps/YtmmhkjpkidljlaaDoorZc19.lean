/- The program's look at an inode: inodeFault. -/
import Derived.Test.YtmmhkjpkidljlaaDoorZc15
import Derived.Test.YtmmhkjpkidljlaaDoorZc18
namespace Go.Proofs.YtmmhkjpkidljlaaDoor
set_option linter.unusedVariables false
set_option linter.unusedSimpArgs false
open Go.RowKit


end Go.Proofs.YtmmhkjpkidljlaaDoor
