/- The program's look at an inode: inodeFault. -/
import Derived.Test.YthkoflpcinbgeaaDoorZo13
import Derived.Test.YthkoflpcinbgeaaDoorZo31
namespace Go.Proofs.YthkoflpcinbgeaaDoor
set_option linter.unusedVariables false
set_option linter.unusedSimpArgs false
open Go.RowKit


end Go.Proofs.YthkoflpcinbgeaaDoor
