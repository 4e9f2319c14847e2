/- The program's look at an inode: inodeFault. -/
import Derived.Test.YthkoflpcinbgeaaZp10
import Derived.Test.YthkoflpcinbgeaaZp24
namespace Go.Proofs.Ythkoflpcinbgeaa
set_option linter.unusedVariables false
set_option linter.unusedSimpArgs false
open Go.RowKit


end Go.Proofs.Ythkoflpcinbgeaa
