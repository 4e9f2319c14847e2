/- The program's look at an inode: inodeFault. -/
import Derived.Test.YthkoflpcinbgeaaZq08
import Derived.Test.YthkoflpcinbgeaaZq22
namespace Go.Proofs.Ythkoflpcinbgeaa
set_option linter.unusedVariables false
set_option linter.unusedSimpArgs false
open Go.RowKit


end Go.Proofs.Ythkoflpcinbgeaa
